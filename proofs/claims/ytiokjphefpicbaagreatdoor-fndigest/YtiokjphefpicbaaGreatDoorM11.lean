/- Nodes and their buckets, part 11 of the law FnDigest. -/
import Derived.Test.YtiokjphefpicbaaGreatDoorM09
import Derived.Deep.Upon
namespace Go.Proofs.YtiokjphefpicbaaGreatDoor
open Go.RowKit
set_option maxRecDepth 100000
set_option maxHeartbeats 16000000
set_option linter.unusedSimpArgs false
set_option linter.unusedVariables false
section
variable {W W' w w':World} {ao:Option Addr} {b cap g k n n' off:Nat} {l:List Sib} {ops:Array Oper} {t:TypeId} {v v':Value} {xs xs':List Value}
def HasD (l:List Sib) (p n:Int):Prop:=∃ o ∈ l,o.p=p∧o.n=n
theorem sx_ (cap:Nat) (ao:Option Addr) (l:List Sib) (a b c p n:Int) (w:World) (hm:(l.length:Int)≤1048576) (hr0:zk_ w ao l) :
  Calls Tryz.prog 163 #[.agg #[.slice ao l.length cap,.int .i64 a,.int .i64 b,.int .i64 c],.agg #[.int .i64 p,.int .i64 n]] w fun e w'=>∃ k:Int,e=.returned (.int .i64 k)∧Hid (HasD l p n→0≤k)∧Hid (¬ HasD l p n→k = -1)∧Below w.heap.size w w':=by
 have hr:Hid (zk_ w ao l):=hr0
 clear hr0
 go_enter Tryz.func163,Tryz.ntmps163
 go_wp2
 go_loopw [5] (fun s5 wr=>∃ k:Nat,k≤l.length∧s5=.int .i64 k∧Below w.heap.size w wr∧(∀ i (h:i < l.length),i < k→¬ (l[i].p=p∧l[i].n=n))∧w.heap.size+1 < wr.heap.size∧wr.cell? ⟨w.heap.size,0,none⟩=some (.slice ao l.length cap)∧wr.cell? ⟨w.heap.size+1,0,none⟩=some (.int .i64 p)∧wr.cell? ⟨w.heap.size+1,1,none⟩=some (.int .i64 n)) (fun s5 _=>l.length - (intOf s5).toNat)
 case atStart=>exact ⟨0,by omega,rfl,((zb_ _ _).trans ((zb_ _ _).mono (by simp))),fun i h h'=>by omega,by simp,by go_simp,by go_simp,by go_simp⟩
 case round=>
  obtain ⟨k,hk,rfl,hB0,hG0,hz,C0,D0,D1⟩:=hrel
  have hB:=hm_ hB0
  have hG:=hm_ hG0
  clear hB0 hG0
  by_cases hkl:k < l.length
  ·have hkl':(k:Int) < (l.length:Int):=by omega
   have kk:(0:Int)≤(k:Int):=by omega
   rcases hr.out with h' | ⟨q,off,rfl,h2⟩
   ·rw [h'] at hkl; simp at hkl
   obtain ⟨x0,x1,x2,x3⟩:=(h2 k hkl).next hB.out (zg_ (x:=⟨q,off+k * 4,none⟩) (h2 k hkl).1)
   clear h2 x2 x3
   have es:=eqd l[k].p l[k].n p n
   cases he:decide (l[k].p=p∧l[k].n=n)
   ·have hq:(l[k].p == p && l[k].n == n)=false:=p8_ (of_decide_eq_false he)
    have hG1:Hid (∀ i (h:i < l.length),i < k+1→¬ (l[i].p=p∧l[i].n=n)):=fun i h h3=>by
     by_cases e:i=k
     ·subst e; exact of_decide_eq_false he
     ·exact hG.out i h (by omega)
    clear he
    go_wp2
    refine wp_region_held_drew (S:=(fun w'=>w'.cell? ⟨w.heap.size,0,none⟩=some (.slice (some ⟨q,off,none⟩) l.length cap)∧w'.cell? ⟨w.heap.size+1,0,none⟩=some (.int .i64 p)∧w'.cell? ⟨w.heap.size+1,1,none⟩=some (.int .i64 n)∧w'.cell? ⟨q,off+k * 4,none⟩=some (.int .i64 l[k].p)∧w'.cell? ⟨q,off+k * 4+1,none⟩=some (.int .i64 l[k].n))) (by kernel_rfl) ?_ (fun hH=>?_)
    ·(try dsimp only)
     exact ⟨C0,D0,D1,x0,x1⟩
    refine wTk 0 ?_
    refine wTk 1 ?_
    refine wTk 2 ?_
    refine wTk 3 ?_
    refine wTk 4 ?_
    refine wTk 5 ?_
    refine wTk 6 ?_
    refine wTk 7 ?_
    refine wDn ?_
    have hB5:Hid (Below w.heap.size w wr.drew):=ze_ hB (zc_ _)
    clear hH x0 x1 es hq
    go_wp2
    go_roundw
    case rel=>first | exact ⟨k+1,by omega,by go_num,hB5.out,hG1.out,hz,C0,D0,D1⟩ | ((repeat apply Exists.intro); exact ⟨⟨k+1,by omega,by go_num,hB5.out,hG1.out,hz,C0,D0,D1⟩,rfl⟩)
    case measure=>simp [intOf]; omega
   ·have hq:(l[k].p == p && l[k].n == n)=true:=p9_ (of_decide_eq_true he)
    have hY:Hid (HasD l p n):=⟨l[k],List.getElem_mem hkl,of_decide_eq_true he⟩
    clear he
    go_wp2
    refine wp_region_held_drew (S:=(fun w'=>w'.cell? ⟨w.heap.size,0,none⟩=some (.slice (some ⟨q,off,none⟩) l.length cap)∧w'.cell? ⟨w.heap.size+1,0,none⟩=some (.int .i64 p)∧w'.cell? ⟨w.heap.size+1,1,none⟩=some (.int .i64 n)∧w'.cell? ⟨q,off+k * 4,none⟩=some (.int .i64 l[k].p)∧w'.cell? ⟨q,off+k * 4+1,none⟩=some (.int .i64 l[k].n))) (by kernel_rfl) ?_ (fun hH=>?_)
    ·(try dsimp only)
     exact ⟨C0,D0,D1,x0,x1⟩
    refine wTk 0 ?_
    refine wTk 1 ?_
    refine wTk 2 ?_
    refine wTk 3 ?_
    refine wTk 4 ?_
    refine wTk 5 ?_
    refine wTk 6 ?_
    refine wTk 7 ?_
    refine wDn ?_
    have hB5:Hid (Below w.heap.size w wr.drew):=ze_ hB (zc_ _)
    clear hH x0 x1 es hq C0 D0 D1
    go_wp2
    go_ret
    exact ⟨k,rfl,fun _=>kk,fun h=>(h hY.out).elim,hB5.out⟩
  ·have hkl':¬ (k:Int) < (l.length:Int):=by omega
   have hY:Hid (¬ HasD l p n):=by
    rintro ⟨o,ho,e⟩
    obtain ⟨i,hi,rfl⟩:=List.mem_iff_getElem.1 ho
    exact hG.out i hi (by omega) e
   go_wp2
   go_ret
   exact ⟨-1,rfl,fun h=>(hY.out h).elim,fun _=>rfl,hB.out⟩
def zG_ (w:World) (ao:Option Addr) (m:Nat) (l:List Sib):Prop:=m=l.length∧zk_ w ao l
theorem zG_.next {m:Nat} (h:zG_ w ao m l) (hb:Below w.heap.size w w'):zG_ w' ao m l:=⟨h.1,h.2.next hb⟩
section
variable {P:Program}
theorem tj_ (w:World) (t ty e:TypeId) (i:TypeInfo) (z:Value) (bytes:Nat) (ht:P.underlying t=some (.slice e)) (hi:P.info? e=some i) (hz:i.zero=some z)
  (hsize:i.size=4) (hby:i.bytes=bytes) (hzs:z.cells.size=4)
  (v:Value) (n:Nat) (xs:List Value) (hown:w.ownsRow 0 e 4 v n xs)
  (ao:Option Addr) (m c:Nat) (l:List Sib) (hsrc:zG_ w ao m l)
  (h63:n+m≤maxLen) (hbytes:(n+m) * bytes≤140737488355328) :
  ∃ v' w',(Builtin.append_ #[t,t] ty #[v,.slice ao m c]).run P w=.ok v' w'∧w'.ownsRow 0 e 4 v' (n+m) (xs++flat l)∧Gro w w' v v':=by
 obtain ⟨rfl,hrow⟩:=hsrc
 by_cases hl:l=[]
 ·subst hl
  have hsr:Src P i.size t (.slice ao 0 c) 0 [] w:=by
   cases ao with
   | none=>exact Src.ofNil w ht c
   | some ad=>exact Src.ofSlice w ht ad 0 c [] (by simp) (fun j u h=>by simp at h) (fun u h=>by cases h)
  rcases hown.2 with ⟨rfl,rfl⟩ | ⟨g,cap,cur,rfl,_,_,hnc,_⟩
  ·exact ⟨_,_,run_append_nothing w t t ty e i ht hi none 0 0 (Nat.le_refl _) _ hsr,by simpa [flat] using hown,Gro.refl _ _⟩
  ·exact ⟨_,_,run_append_nothing w t t ty e i ht hi _ n cap hnc _ hsr,by simpa [flat] using hown,Gro.refl _ _⟩
 ·rcases hrow with h | ⟨b,off,rfl,h2⟩
  ·exact (hl h).elim
  ·exact xe_ (P:=P) w t ty e i z 4 bytes ht hi hz hsize hby hzs (by decide) v n xs hown ⟨b,off,none⟩ l.length c (flat l) (w7_ l) (fun j u hu=>by rw [ui_]; exact vA_ (l:=l) (off:=off) rfl h2 j u hu) (wC_ l) h63 hbytes
theorem zp_ {o:Oper} {a:Act} {K:Act→World→Prop} {Q:Exit→Act→World→Prop} (s x:Operand) (t:TypeId)
  (ho:o.op=.call { callee:=.builtin .append,args:=#[s,x],argTypes:=#[t,t] })
  (e:TypeId) (i:TypeInfo) (z:Value) (bytes:Nat) (ht:P.underlying t=some (.slice e)) (hi:P.info? e=some i) (hz:i.zero=some z)
  (hsize:i.size=4) (hby:i.bytes=bytes) (hzs:z.cells.size=4)
  (v:Value) (n:Nat) (xs:List Value) (hs:a.eval s=v) (hown:w.ownsRow 0 e 4 v n xs)
  (ao:Option Addr) (m c:Nat) (l:List Sib) (hx:a.eval x=.slice ao m c) (hsrc:zG_ w ao m l)
  (h63:n+m≤maxLen) (hbytes:(n+m) * bytes≤140737488355328)
  (h:∀ v' w',w'.ownsRow 0 e 4 v' (n+m) (xs++flat l)→Gro w w' v v'→K (a.put o.dst v') w'):o.wp P a w K Q:=by
 obtain ⟨v',w',hr,h2,h3⟩:=tj_ (P:=P) w t o.type e i z bytes ht hi hz hsize hby hzs v n xs hown ao m c l hsrc h63 hbytes
 unfold Oper.wp execOp
 simp only [ho,resolve,invoke,builtin,Sem.run_bind,Sem.run_pure,Result.andThen_ok,List.map_toArray,List.map_cons,List.map_nil,hs,hx,hr]
 exact h v' w' h2 h3
theorem yf_ {rest:List Oper} {o:Oper} {a:Act} {Q:Exit→Act→World→Prop} (hgd:o.guard=none) (s x:Operand) (t:TypeId)
  (ho:o.op=.call { callee:=.builtin .append,args:=#[s,x],argTypes:=#[t,t] })
  (e:TypeId) (i:TypeInfo) (z:Value) (bytes:Nat) (ht:P.underlying t=some (.slice e)) (hi:P.info? e=some i) (hz:i.zero=some z)
  (hsize:i.size=4) (hby:i.bytes=bytes) (hzs:z.cells.size=4)
  (v:Value) (n:Nat) (xs:List Value) (hs:a.eval s=v) (hown:w.ownsRow 0 e 4 v n xs)
  (ao:Option Addr) (m c:Nat) (l:List Sib) (hx:a.eval x=.slice ao m c) (hsrc:zG_ w ao m l)
  (h63:n+m≤maxLen) (hbytes:(n+m) * bytes≤140737488355328)
  (h:∀ v' w',w'.ownsRow 0 e 4 v' (n+m) (xs++flat l)→Gro w w' v v'→wpList P ops Q rest (a.put o.dst v') w'):wpList P ops Q (o :: rest) a w:=
 wpList_plain hgd fun _ hK=>zp_ s x t ho e i z bytes ht hi hz hsize hby hzs v n xs hs hown ao m c l hx hsrc h63 hbytes (fun v' w' h2 h3=>hK _ _ (h v' w' h2 h3))
end
def Own (wr W:World) (e:TypeId) (v:Value) (n:Nat) (xs:List Value):Prop:=W.ownsRow 0 e 4 v n xs∧Below wr.heap.size wr W∧∀ k,v.ownBlock=some k→wr.heap.size≤k
theorem Own.step {wr:World} {e:TypeId} (h:Own wr W e v n xs) (hb:Below W.heap.size W W'):Own wr W' e v n xs:=⟨zR_ h.1 hb,h.2.1.trans (hb.mono h.2.1.size),h.2.2⟩
theorem Own.app {wr:World} {e:TypeId} (h:Own wr W e v n xs) (ho:W'.ownsRow 0 e 4 v' n' xs') (hg:Gro W W' v v'):Own wr W' e v' n' xs':=
 ⟨ho,h.2.1.trans (hg.below h.2.1.size h.2.2),fun k hk=>by
  rcases hg.fresh k hk with h' | h'
  ·exact h.2.2 k h'
  ·exact Nat.le_trans h.2.1.size h'⟩
theorem Own.lit {wr:World} {e:TypeId} (hb:Below wr.heap.size wr W):Own wr (W.alloc (.cells #[] e)) e (.slice (some ⟨W.heap.size,0,none⟩) 0 0) 0 []:=
 ⟨World.ownsRow_lit (base:=0) (e:=e) (size:=4) W #[] 0 (Nat.zero_le _) (by unfold maxLen; omega) (by simp),hb.trans ((zb_ _ _).mono hb.size),fun k hk=>by
  simp [Value.ownBlock] at hk
  have:=hb.size
  omega⟩
theorem Own.gro {wr:World} {e:TypeId} (h:Own wr W e v n xs):Gro wr W (.slice none 0 0) v:=⟨z3_ h.2.1,fun k hk=>.inr (h.2.2 k hk)⟩
theorem Own.shape {wr:World} {e:TypeId} (h:Own wr W e v n xs):∃ o c,v=.slice o n c∧n≤c:=by
 rcases h.1.2 with ⟨rfl,rfl⟩ | ⟨g,cap,cur,rfl,_,_,hnc,_⟩
 ·exact ⟨_,_,rfl,Nat.le_refl _⟩
 ·exact ⟨_,_,rfl,hnc⟩
theorem tX_ (hk:k≤l.length) (h:zk_ W (some ⟨b,off,none⟩) l):zG_ W (some ⟨b,off,none⟩) k (l.take k):=by
 refine ⟨by simp; omega,?_⟩
 rcases h with h | ⟨b',off',e,h2⟩
 ·left; rw [h]; simp
 ·cases e
  exact .inr ⟨b,off,rfl,fun i hi=>by
   have:=h2 i (by simp at hi; omega)
   simpa using this⟩
theorem q9_ (hk:k≤l.length) (h:zk_ W (some ⟨b,off,none⟩) l):zG_ W (some ⟨b,off+k * 4,none⟩) (l.length - k) (l.drop k):=by
 refine ⟨by simp,?_⟩
 rcases h with h | ⟨b',off',e,h2⟩
 ·left; rw [h]; simp
 ·cases e
  refine .inr ⟨b,off+k * 4,rfl,fun i hi=>?_⟩
  have:=h2 (k+i) (by simp at hi; omega)
  have e1:off+(k+i) * 4=off+k * 4+i * 4:=by omega
  rw [e1] at this
  simpa using this
theorem up_ (hk:k≤l.length) (hc:l.length≤cap) (h:zk_ W (some ⟨b,off,none⟩) l):zG_ W (if cap=k then some ⟨b,off,none⟩ else some ⟨b,off+k * 4,none⟩) (l.length - k) (l.drop k):=by
 by_cases e:cap=k
 ·rw [if_pos e]
  have:l.length=k:=by omega
  exact ⟨by simp,.inl (by simp; omega)⟩
 ·rw [if_neg e]
  exact q9_ hk h
theorem uo_ (hc:l.length≤cap) (h:zk_ W (some ⟨b,off,none⟩) l):zG_ W (if cap=l.length then some ⟨b,off,none⟩ else some ⟨b,off+l.length * 4,none⟩) 0 (l.drop l.length):=by
 have:=up_ (Nat.le_refl _) hc h
 rwa [Nat.sub_self] at this
theorem xs_ {m:Nat} (h:zG_ W (some ⟨g,0,none⟩) m l) (hg:Gro W W' v v') (hne:v.ownBlock≠some g):zG_ W' (some ⟨g,0,none⟩) m l:=⟨h.1,hg.row h.2 (fun q hq=>by cases hq; exact hne)⟩
theorem wu_:zG_ W ao 0 []:=⟨rfl,.inl rfl⟩
theorem z6_ {x:Sib}:zG_ (W.alloc (.cells #[.int .i64 x.p,.int .i64 x.n,.int .i64 x.v,.bool x.d] t)) (some ⟨W.heap.size,0,none⟩) 1 [x]:=⟨rfl,v0_⟩
end
theorem on_ (cap:Nat) (ao:Option Addr) (l:List Sib) (x:Sib) (w:World) (hm:(l.length:Int)≤1048576) (hcap:l.length≤cap) (hr0:zk_ w ao l) :
  Calls Tryz.prog 151 #[.slice ao l.length cap,.agg #[.int .i64 x.p,.int .i64 x.n,.int .i64 x.v,.bool x.d]] w fun e w'=>∃ v',e=.returned v'∧w'.ownsRow 0 89 4 v' (pt x l).length (flat (pt x l))∧Gro w w' (.slice none 0 0) v':=by
 have hr:Hid (zk_ w ao l):=hr0
 clear hr0
 obtain ⟨i0,hi,hz0,hz1,hz2⟩:=info_parts yV_
 have HI:Hid (Tryz.prog.info? 89=some i0∧i0.zero=some (.agg #[.int .i64 0,.int .i64 0,.int .i64 0,.bool false])∧i0.size=4∧i0.bytes=32):=⟨hi,hz0,hz1,hz2⟩
 clear hi hz0 hz1 hz2
 go_enter Tryz.func151,Tryz.ntmps151
 go_wp2
 go_loopw [5] (fun s5 wr=>∃ k:Nat,k≤l.length∧s5=.int .i64 k∧Below w.heap.size w wr∧(∀ i (h:i < l.length),i < k→z4_ l[i].p l[i].n x.p x.n < 0)∧w.heap.size < wr.heap.size∧wr.cell? ⟨w.heap.size,0,none⟩=some (.int .i64 x.p)∧wr.cell? ⟨w.heap.size,1,none⟩=some (.int .i64 x.n)∧wr.cell? ⟨w.heap.size,2,none⟩=some (.int .i64 x.v)∧wr.cell? ⟨w.heap.size,3,none⟩=some (.bool x.d)) (fun s5 _=>l.length - (intOf s5).toNat)
 case atStart=>exact ⟨0,by omega,rfl,zb_ _ _,fun i h h'=>by omega,by simp,by go_simp,by go_simp,by go_simp,by go_simp⟩
 case round=>
  obtain ⟨k,hk,rfl,hB0,hG0,hz,D0,D1,D2,D3⟩:=hrel
  have HB0:=hm_ hB0
  have hG:=hm_ hG0
  have hR:Hid (zk_ wr ao l):=hr.out.next hB0
  have kk:(0:Int)≤(k:Int):=by omega
  clear hB0 hG0
  by_cases hkl:k < l.length
  ·have hkl':(k:Int) < (l.length:Int):=by omega
   rcases hR.out with h' | ⟨q,off,rfl,h2⟩
   ·rw [h'] at hkl; simp at hkl
   obtain ⟨x0,x1,x2,x3⟩:=h2 k hkl
   clear h2 x2 x3
   cases hd:decide (z4_ l[k].p l[k].n x.p x.n < 0)
   ·have HPT:Hid (l.take k++x :: l.drop k=pt x l):=oo_ x l k hk hG.out (fun _=>of_decide_eq_false hd)
    go_wp2
    refine wp_region_held_drew (S:=(fun w'=>(w'.cell? ⟨w.heap.size,0,none⟩=some (.int .i64 x.p)∧w'.cell? ⟨w.heap.size,1,none⟩=some (.int .i64 x.n)∧w'.cell? ⟨w.heap.size,2,none⟩=some (.int .i64 x.v)∧w'.cell? ⟨w.heap.size,3,none⟩=some (.bool x.d))∧w'.cell? ⟨q,off+k * 4,none⟩=some (.int .i64 l[k].p)∧w'.cell? ⟨q,off+k * 4+1,none⟩=some (.int .i64 l[k].n)∧Below wr.heap.size wr w')) (by kernel_rfl) ?_ (fun hH=>?_)
    ·(try dsimp only)
     exact ⟨⟨D0,D1,D2,D3⟩,x0,x1,zc_ _⟩
    refine wTk 0 ?_
    refine wTk 1 ?_
    refine wTk 2 ?_
    refine wTk 3 ?_
    refine wTk 4 ?_
    refine wTk 5 ?_
    refine wTk 6 ?_
    refine wTk 7 ?_
    refine wTk 8 ?_
    refine wTk 9 ?_
    refine wTk 10 ?_
    refine wTk 11 ?_
    refine wRd 12 (fun K hK=>?_)
    go_simp
    (go_at_call 130; refine (xi_ l[k].p l[k].n x.p x.n _).mono ?_; rintro e w3 ⟨rfl,hb⟩)
    (try simp only [])
    refine hK.out _ _ ?_ (fun hH'=>?_)
    ·(try dsimp only)
     exact ⟨⟨za_ hb hH.1.1 (zg_ (x:=⟨w.heap.size,0,none⟩) hH.1.1),za_ hb hH.1.2.1 (zg_ (x:=⟨w.heap.size,1,none⟩) hH.1.2.1),za_ hb hH.1.2.2.1 (zg_ (x:=⟨w.heap.size,2,none⟩) hH.1.2.2.1),za_ hb hH.1.2.2.2 (zg_ (x:=⟨w.heap.size,3,none⟩) hH.1.2.2.2)⟩,za_ hb hH.2.1 (zg_ (x:=⟨q,off+k * 4,none⟩) hH.2.1),za_ hb hH.2.2.1 (zg_ (x:=⟨q,off+k * 4+1,none⟩) hH.2.2.1),(ze_ hH.2.2.2 hb).out⟩
    clear hK K
    clear hH
    have hH:=hH'
    clear hH'
    clear hb
    refine wLy ?_
    refine wTk 13 ?_
    refine wTk 14 ?_
    refine wDn ?_
    obtain ⟨⟨E0,E1,E2,E3⟩,_,_,hB3⟩:=hH
    replace HB0:=ze_ HB0 hB3
    have hz3:=Nat.lt_of_lt_of_le hz hB3.size
    replace hR:Hid (zk_ w3 (some ⟨q,off,none⟩) l):=hR.out.next hB3
    clear D0 D1 D2 D3 x0 x1 hd hB3
    go_wp2
    have hck:k≤cap:=by omega
    have hck':(k:Int)≤(cap:Int):=by omega
    have hkl2:(k:Int)≤(l.length:Int):=by omega
    have hz:=hz3
    have D0:=E0
    have D1:=E1
    have D2:=E2
    have D3:=E3
    clear E0 E1 E2 E3
    have SrcT:zG_ w3 _ _ (l.take k):=tX_ hk hR.out
    have SrcD:zG_ w3 _ _ (l.drop k):=up_ hk hcap hR.out
    refine wp_region_held_drew (S:=(fun w'=>(w'.cell? ⟨w.heap.size,0,none⟩=some (.int .i64 x.p)∧w'.cell? ⟨w.heap.size,1,none⟩=some (.int .i64 x.n)∧w'.cell? ⟨w.heap.size,2,none⟩=some (.int .i64 x.v)∧w'.cell? ⟨w.heap.size,3,none⟩=some (.bool x.d))∧Below w3.heap.size w3 w')) (by kernel_rfl) ?_ (fun hH=>?_)
    ·(try dsimp only)
     exact ⟨⟨D0,D1,D2,D3⟩,zc_ _⟩
    refine wTk 1 ?_
    refine wTk 2 ?_
    refine wTk 3 ?_
    refine wTk 8 ?_
    refine wTk 9 ?_
    refine wTk 10 ?_
    refine wTk 5 ?_
    have HBs:Below w3.heap.size w3 w3.drew:=zc_ _
    refine wpAnyH_ready (rs:=[0,6]) (by kernel_rfl) (by simp) ?_
    refine AllReadyH.cons rfl (fun K hK=>?_) (AllReadyH.cons rfl (fun K hK=>?_) AllReadyH.nil)
    ·refine wLy ?_
     go_simp
     (try simp only [])
     have OW11:Own w3 ((w3.drew).alloc (.cells #[] 89)) 89 (.slice (some ⟨w3.heap.size,0,none⟩) 0 0) 0 []:=by simpa using Own.lit (e:=89) HBs
     have HBn:Below w3.heap.size w3 ((w3.drew).alloc (.cells #[] 89)):=HBs.trans ((zb_ _ _).mono HBs.size)
     refine hK.out _ _ ?_ (fun hH'=>?_)
     ·(try dsimp only)
      exact ⟨⟨za_ HBn D0 hz,za_ HBn D1 hz,za_ HBn D2 hz,za_ HBn D3 hz⟩,HBn⟩
     clear hK K
     clear hH
     have hH:=hH'
     clear hH'
     have HB11:Below w3.heap.size w3 ((w3.drew).alloc (.cells #[] 89)):=HBn
     clear HBn
     refine wLy ?_
     refine wpAnyH_ready (rs:=[4,6]) (by kernel_rfl) (by simp) ?_
     refine AllReadyH.cons rfl (fun K hK=>?_) (AllReadyH.cons rfl (fun K hK=>?_) AllReadyH.nil)
     focus
      rw [if_pos (by rfl)]
      refine zp_ (.tmp 23) (.tmp 26) 33 rfl 89 i0 (.agg #[.int .i64 0,.int .i64 0,.int .i64 0,.bool false]) 32 Tryz.underlying33 HI.out.1 HI.out.2.1 HI.out.2.2.1 HI.out.2.2.2 rfl (.slice (some ⟨w3.heap.size,0,none⟩) 0 0) _ _ rfl OW11.1 _ _ _ _ rfl (SrcT.next HB11) (by unfold maxLen; (try simp); (try omega)) (by (try simp); (try omega)) ?_
      intro v12 w12 ho hg
      have OW12:=OW11.app ho hg
      have HBn:=OW12.2.1
      clear ho hg
      refine hK.out _ _ ?_ (fun hH'=>?_)
      ·(try dsimp only)
       exact ⟨⟨za_ HBn D0 hz,za_ HBn D1 hz,za_ HBn D2 hz,za_ HBn D3 hz⟩,HBn⟩
      clear hK K
      clear hH
      have hH:=hH'
      clear hH'
      have HB12:Below w3.heap.size w3 (w12):=HBn
      clear HBn
      refine wLy ?_
      refine wRd 6 (fun K hK=>?_)
      go_simp
      (try simp only [])
      have OW13:=OW12.step (zb_ _ ((.cells #[.int .i64 x.p,.int .i64 x.n,.int .i64 x.v,.bool x.d] 89)))
      have SO13:zG_ ((w12).alloc (.cells #[.int .i64 x.p,.int .i64 x.n,.int .i64 x.v,.bool x.d] 89)) (some ⟨w12.heap.size,0,none⟩) 1 [x]:=by simpa using (z6_ (W:=w12) (x:=x) (t:=89))
      have HBn:Below w3.heap.size w3 ((w12).alloc (.cells #[.int .i64 x.p,.int .i64 x.n,.int .i64 x.v,.bool x.d] 89)):=HB12.trans ((zb_ _ _).mono HB12.size)
      refine hK.out _ _ ?_ (fun hH'=>?_)
      ·(try dsimp only)
       exact ⟨⟨za_ HBn D0 hz,za_ HBn D1 hz,za_ HBn D2 hz,za_ HBn D3 hz⟩,HBn⟩
      clear hK K
      clear hH
      have hH:=hH'
      clear hH'
      have HB13:Below w3.heap.size w3 ((w12).alloc (.cells #[.int .i64 x.p,.int .i64 x.n,.int .i64 x.v,.bool x.d] 89)):=HBn
      clear HBn
      refine wLy ?_
      refine wpAnyH_ready (rs:=[7]) (by kernel_rfl) (by simp) ?_
      refine AllReadyH.cons rfl (fun K hK=>?_) AllReadyH.nil
      rw [if_pos (by rfl)]
      refine zp_ (.tmp 27) (.tmp 29) 33 rfl 89 i0 (.agg #[.int .i64 0,.int .i64 0,.int .i64 0,.bool false]) 32 Tryz.underlying33 HI.out.1 HI.out.2.1 HI.out.2.2.1 HI.out.2.2.2 rfl v12 _ _ rfl OW13.1 _ _ _ _ rfl SO13 (by unfold maxLen; (try simp); (try omega)) (by (try simp); (try omega)) ?_
     rotate_left
     focus
      refine wLy ?_
      go_simp
      (try simp only [])
      have OW12:=OW11.step (zb_ _ ((.cells #[.int .i64 x.p,.int .i64 x.n,.int .i64 x.v,.bool x.d] 89)))
      have SO12:zG_ (((w3.drew).alloc (.cells #[] 89)).alloc (.cells #[.int .i64 x.p,.int .i64 x.n,.int .i64 x.v,.bool x.d] 89)) (some ⟨w3.heap.size+1,0,none⟩) 1 [x]:=by simpa using (z6_ (W:=(w3.drew).alloc (.cells #[] 89)) (x:=x) (t:=89))
      have HBn:Below w3.heap.size w3 (((w3.drew).alloc (.cells #[] 89)).alloc (.cells #[.int .i64 x.p,.int .i64 x.n,.int .i64 x.v,.bool x.d] 89)):=HB11.trans ((zb_ _ _).mono HB11.size)
      refine hK.out _ _ ?_ (fun hH'=>?_)
      ·(try dsimp only)
       exact ⟨⟨za_ HBn D0 hz,za_ HBn D1 hz,za_ HBn D2 hz,za_ HBn D3 hz⟩,HBn⟩
      clear hK K
      clear hH
      have hH:=hH'
      clear hH'
      have HB12:Below w3.heap.size w3 (((w3.drew).alloc (.cells #[] 89)).alloc (.cells #[.int .i64 x.p,.int .i64 x.n,.int .i64 x.v,.bool x.d] 89)):=HBn
      clear HBn
      refine wLy ?_
      refine wpAnyH_ready (rs:=[4]) (by kernel_rfl) (by simp) ?_
      refine AllReadyH.cons rfl (fun K hK=>?_) AllReadyH.nil
      rw [if_pos (by rfl)]
      refine zp_ (.tmp 23) (.tmp 26) 33 rfl 89 i0 (.agg #[.int .i64 0,.int .i64 0,.int .i64 0,.bool false]) 32 Tryz.underlying33 HI.out.1 HI.out.2.1 HI.out.2.2.1 HI.out.2.2.2 rfl (.slice (some ⟨w3.heap.size,0,none⟩) 0 0) _ _ rfl OW12.1 _ _ _ _ rfl (SrcT.next HB12) (by unfold maxLen; (try simp); (try omega)) (by (try simp); (try omega)) ?_
      intro v13 w13 ho hg
      have OW13:=OW12.app ho hg
      have SO13:=xs_ SO12 hg (by simp [Value.ownBlock])
      have HBn:=OW13.2.1
      clear ho hg
      refine hK.out _ _ ?_ (fun hH'=>?_)
      ·(try dsimp only)
       exact ⟨⟨za_ HBn D0 hz,za_ HBn D1 hz,za_ HBn D2 hz,za_ HBn D3 hz⟩,HBn⟩
      clear hK K
      clear hH
      have hH:=hH'
      clear hH'
      have HB13:Below w3.heap.size w3 (w13):=HBn
      clear HBn
      refine wLy ?_
      refine wpAnyH_ready (rs:=[7]) (by kernel_rfl) (by simp) ?_
      refine AllReadyH.cons rfl (fun K hK=>?_) AllReadyH.nil
      rw [if_pos (by rfl)]
      refine zp_ (.tmp 27) (.tmp 29) 33 rfl 89 i0 (.agg #[.int .i64 0,.int .i64 0,.int .i64 0,.bool false]) 32 Tryz.underlying33 HI.out.1 HI.out.2.1 HI.out.2.2.1 HI.out.2.2.2 rfl v13 _ _ rfl OW13.1 _ _ _ _ rfl SO13 (by unfold maxLen; (try simp); (try omega)) (by (try simp); (try omega)) ?_
     rotate_left
     all_goals
      intro v14 w14 ho hg
      have OW14:=OW13.app ho hg
      have HBn:=OW14.2.1
      clear ho hg
      refine hK.out _ _ ?_ (fun hH'=>?_)
      ·(try dsimp only)
       exact ⟨⟨za_ HBn D0 hz,za_ HBn D1 hz,za_ HBn D2 hz,za_ HBn D3 hz⟩,HBn⟩
      clear hK K
      clear hH
      have hH:=hH'
      clear hH'
      have HB14:Below w3.heap.size w3 (w14):=HBn
      clear HBn
      refine wLy ?_
      refine wpAnyH_ready (rs:=[11]) (by kernel_rfl) (by simp) ?_
      refine AllReadyH.cons rfl (fun K hK=>?_) AllReadyH.nil
      rw [if_pos (by rfl)]
      refine zp_ (.tmp 30) (.tmp 33) 33 rfl 89 i0 (.agg #[.int .i64 0,.int .i64 0,.int .i64 0,.bool false]) 32 Tryz.underlying33 HI.out.1 HI.out.2.1 HI.out.2.2.1 HI.out.2.2.2 rfl v14 _ _ rfl OW14.1 _ _ _ _ rfl (SrcD.next HB14) (by unfold maxLen; (try simp); (try omega)) (by (try simp); (try omega)) ?_
      intro v15 w15 ho hg
      have OW15:=OW14.app ho hg
      have HBn:=OW15.2.1
      clear ho hg
      refine hK.out _ _ ?_ (fun hH'=>?_)
      ·(try dsimp only)
       exact ⟨⟨za_ HBn D0 hz,za_ HBn D1 hz,za_ HBn D2 hz,za_ HBn D3 hz⟩,HBn⟩
      clear hK K
      clear hH
      have hH:=hH'
      clear hH'
      have HB15:Below w3.heap.size w3 (w15):=HBn
      clear HBn
      refine wLy ?_
      refine wTk 12 ?_
      refine wDn ?_
      have O9:Hid (Own w3 w15 89 v15 _ _):=OW15
      clear hH D0 D1 D2 D3
      go_wp2
      all_goals go_ret
      all_goals exact ⟨_,rfl,zA_ O9.out.1 (by rw [← HPT.out]; (try simp); (try omega)) (by rw [← HPT.out]; simp [zz_,flat]),(Gro.of_below HB0.out).trans O9.out.gro⟩
    ·refine wLy ?_
     go_simp
     (try simp only [])
     have SO11:zG_ ((w3.drew).alloc (.cells #[.int .i64 x.p,.int .i64 x.n,.int .i64 x.v,.bool x.d] 89)) (some ⟨w3.heap.size,0,none⟩) 1 [x]:=by simpa using (z6_ (W:=w3.drew) (x:=x) (t:=89))
     have HBn:Below w3.heap.size w3 ((w3.drew).alloc (.cells #[.int .i64 x.p,.int .i64 x.n,.int .i64 x.v,.bool x.d] 89)):=HBs.trans ((zb_ _ _).mono HBs.size)
     refine hK.out _ _ ?_ (fun hH'=>?_)
     ·(try dsimp only)
      exact ⟨⟨za_ HBn D0 hz,za_ HBn D1 hz,za_ HBn D2 hz,za_ HBn D3 hz⟩,HBn⟩
     clear hK K
     clear hH
     have hH:=hH'
     clear hH'
     have HB11:Below w3.heap.size w3 ((w3.drew).alloc (.cells #[.int .i64 x.p,.int .i64 x.n,.int .i64 x.v,.bool x.d] 89)):=HBn
     clear HBn
     refine wLy ?_
     refine wRd 0 (fun K hK=>?_)
     go_simp
     (try simp only [])
     have OW12:Own w3 (((w3.drew).alloc (.cells #[.int .i64 x.p,.int .i64 x.n,.int .i64 x.v,.bool x.d] 89)).alloc (.cells #[] 89)) 89 (.slice (some ⟨w3.heap.size+1,0,none⟩) 0 0) 0 []:=by simpa using Own.lit (e:=89) HB11
     have SO12:=SO11.next (zb_ _ ((.cells #[] 89)))
     have HBn:Below w3.heap.size w3 (((w3.drew).alloc (.cells #[.int .i64 x.p,.int .i64 x.n,.int .i64 x.v,.bool x.d] 89)).alloc (.cells #[] 89)):=HB11.trans ((zb_ _ _).mono HB11.size)
     refine hK.out _ _ ?_ (fun hH'=>?_)
     ·(try dsimp only)
      exact ⟨⟨za_ HBn D0 hz,za_ HBn D1 hz,za_ HBn D2 hz,za_ HBn D3 hz⟩,HBn⟩
     clear hK K
     clear hH
     have hH:=hH'
     clear hH'
     have HB12:Below w3.heap.size w3 (((w3.drew).alloc (.cells #[.int .i64 x.p,.int .i64 x.n,.int .i64 x.v,.bool x.d] 89)).alloc (.cells #[] 89)):=HBn
     clear HBn
     refine wLy ?_
     refine wpAnyH_ready (rs:=[4]) (by kernel_rfl) (by simp) ?_
     refine AllReadyH.cons rfl (fun K hK=>?_) AllReadyH.nil
     rw [if_pos (by rfl)]
     refine zp_ (.tmp 23) (.tmp 26) 33 rfl 89 i0 (.agg #[.int .i64 0,.int .i64 0,.int .i64 0,.bool false]) 32 Tryz.underlying33 HI.out.1 HI.out.2.1 HI.out.2.2.1 HI.out.2.2.2 rfl (.slice (some ⟨w3.heap.size+1,0,none⟩) 0 0) _ _ rfl OW12.1 _ _ _ _ rfl (SrcT.next HB12) (by unfold maxLen; (try simp); (try omega)) (by (try simp); (try omega)) ?_
     intro v13 w13 ho hg
     have OW13:=OW12.app ho hg
     have SO13:=xs_ SO12 hg (by simp [Value.ownBlock])
     have HBn:=OW13.2.1
     clear ho hg
     refine hK.out _ _ ?_ (fun hH'=>?_)
     ·(try dsimp only)
      exact ⟨⟨za_ HBn D0 hz,za_ HBn D1 hz,za_ HBn D2 hz,za_ HBn D3 hz⟩,HBn⟩
     clear hK K
     clear hH
     have hH:=hH'
     clear hH'
     have HB13:Below w3.heap.size w3 (w13):=HBn
     clear HBn
     refine wLy ?_
     refine wpAnyH_ready (rs:=[7]) (by kernel_rfl) (by simp) ?_
     refine AllReadyH.cons rfl (fun K hK=>?_) AllReadyH.nil
     rw [if_pos (by rfl)]
     refine zp_ (.tmp 27) (.tmp 29) 33 rfl 89 i0 (.agg #[.int .i64 0,.int .i64 0,.int .i64 0,.bool false]) 32 Tryz.underlying33 HI.out.1 HI.out.2.1 HI.out.2.2.1 HI.out.2.2.2 rfl v13 _ _ rfl OW13.1 _ _ _ _ rfl SO13 (by unfold maxLen; (try simp); (try omega)) (by (try simp); (try omega)) ?_
     intro v14 w14 ho hg
     have OW14:=OW13.app ho hg
     have HBn:=OW14.2.1
     clear ho hg
     refine hK.out _ _ ?_ (fun hH'=>?_)
     ·(try dsimp only)
      exact ⟨⟨za_ HBn D0 hz,za_ HBn D1 hz,za_ HBn D2 hz,za_ HBn D3 hz⟩,HBn⟩
     clear hK K
     clear hH
     have hH:=hH'
     clear hH'
     have HB14:Below w3.heap.size w3 (w14):=HBn
     clear HBn
     refine wLy ?_
     refine wpAnyH_ready (rs:=[11]) (by kernel_rfl) (by simp) ?_
     refine AllReadyH.cons rfl (fun K hK=>?_) AllReadyH.nil
     rw [if_pos (by rfl)]
     refine zp_ (.tmp 30) (.tmp 33) 33 rfl 89 i0 (.agg #[.int .i64 0,.int .i64 0,.int .i64 0,.bool false]) 32 Tryz.underlying33 HI.out.1 HI.out.2.1 HI.out.2.2.1 HI.out.2.2.2 rfl v14 _ _ rfl OW14.1 _ _ _ _ rfl (SrcD.next HB14) (by unfold maxLen; (try simp); (try omega)) (by (try simp); (try omega)) ?_
     intro v15 w15 ho hg
     have OW15:=OW14.app ho hg
     have HBn:=OW15.2.1
     clear ho hg
     refine hK.out _ _ ?_ (fun hH'=>?_)
     ·(try dsimp only)
      exact ⟨⟨za_ HBn D0 hz,za_ HBn D1 hz,za_ HBn D2 hz,za_ HBn D3 hz⟩,HBn⟩
     clear hK K
     clear hH
     have hH:=hH'
     clear hH'
     have HB15:Below w3.heap.size w3 (w15):=HBn
     clear HBn
     refine wLy ?_
     refine wTk 12 ?_
     refine wDn ?_
     have O9:Hid (Own w3 w15 89 v15 _ _):=OW15
     clear hH D0 D1 D2 D3
     go_wp2
     all_goals go_ret
     all_goals exact ⟨_,rfl,zA_ O9.out.1 (by rw [← HPT.out]; (try simp); (try omega)) (by rw [← HPT.out]; simp [zz_,flat]),(Gro.of_below HB0.out).trans O9.out.gro⟩
   ·have hG1:Hid (∀ i (h:i < l.length),i < k+1→z4_ l[i].p l[i].n x.p x.n < 0):=fun i h h3=>by
     by_cases e:i=k
     ·subst e; exact of_decide_eq_true hd
     ·exact hG.out i h (by omega)
    go_wp2
    refine wp_region_held_drew (S:=(fun w'=>(w'.cell? ⟨w.heap.size,0,none⟩=some (.int .i64 x.p)∧w'.cell? ⟨w.heap.size,1,none⟩=some (.int .i64 x.n)∧w'.cell? ⟨w.heap.size,2,none⟩=some (.int .i64 x.v)∧w'.cell? ⟨w.heap.size,3,none⟩=some (.bool x.d))∧w'.cell? ⟨q,off+k * 4,none⟩=some (.int .i64 l[k].p)∧w'.cell? ⟨q,off+k * 4+1,none⟩=some (.int .i64 l[k].n)∧Below wr.heap.size wr w')) (by kernel_rfl) ?_ (fun hH=>?_)
    ·(try dsimp only)
     exact ⟨⟨D0,D1,D2,D3⟩,x0,x1,zc_ _⟩
    refine wTk 0 ?_
    refine wTk 1 ?_
    refine wTk 2 ?_
    refine wTk 3 ?_
    refine wTk 4 ?_
    refine wTk 5 ?_
    refine wTk 6 ?_
    refine wTk 7 ?_
    refine wTk 8 ?_
    refine wTk 9 ?_
    refine wTk 10 ?_
    refine wTk 11 ?_
    refine wRd 12 (fun K hK=>?_)
    go_simp
    (go_at_call 130; refine (xi_ l[k].p l[k].n x.p x.n _).mono ?_; rintro e w3 ⟨rfl,hb⟩)
    (try simp only [])
    refine hK.out _ _ ?_ (fun hH'=>?_)
    ·(try dsimp only)
     exact ⟨⟨za_ hb hH.1.1 (zg_ (x:=⟨w.heap.size,0,none⟩) hH.1.1),za_ hb hH.1.2.1 (zg_ (x:=⟨w.heap.size,1,none⟩) hH.1.2.1),za_ hb hH.1.2.2.1 (zg_ (x:=⟨w.heap.size,2,none⟩) hH.1.2.2.1),za_ hb hH.1.2.2.2 (zg_ (x:=⟨w.heap.size,3,none⟩) hH.1.2.2.2)⟩,za_ hb hH.2.1 (zg_ (x:=⟨q,off+k * 4,none⟩) hH.2.1),za_ hb hH.2.2.1 (zg_ (x:=⟨q,off+k * 4+1,none⟩) hH.2.2.1),(ze_ hH.2.2.2 hb).out⟩
    clear hK K
    clear hH
    have hH:=hH'
    clear hH'
    clear hb
    refine wLy ?_
    refine wTk 13 ?_
    refine wTk 14 ?_
    refine wDn ?_
    obtain ⟨⟨E0,E1,E2,E3⟩,_,_,hB3⟩:=hH
    replace HB0:=ze_ HB0 hB3
    have hz3:=Nat.lt_of_lt_of_le hz hB3.size
    clear D0 D1 D2 D3 x0 x1 hd hB3
    go_wp2
    go_roundw
    case rel=>first | exact ⟨k+1,by omega,by go_num,HB0.out,hG1.out,hz3,E0,E1,E2,E3⟩ | ((repeat apply Exists.intro); exact ⟨⟨k+1,by omega,by go_num,HB0.out,hG1.out,hz3,E0,E1,E2,E3⟩,rfl⟩)
    case measure=>simp [intOf]; omega
  ·obtain rfl:k=l.length:=by omega
   clear hkl
   have HPT:Hid (l.take l.length++x :: l.drop l.length=pt x l):=oo_ x l l.length hk hG.out (fun h=>by omega)
   have hkl':¬ (l.length:Int) < (l.length:Int):=by omega
   go_wp2
   refine wp_region_held_drew (S:=(fun w'=>(w'.cell? ⟨w.heap.size,0,none⟩=some (.int .i64 x.p)∧w'.cell? ⟨w.heap.size,1,none⟩=some (.int .i64 x.n)∧w'.cell? ⟨w.heap.size,2,none⟩=some (.int .i64 x.v)∧w'.cell? ⟨w.heap.size,3,none⟩=some (.bool x.d))∧Below wr.heap.size wr w')) (by kernel_rfl) ?_ (fun hH=>?_)
   ·(try dsimp only)
    exact ⟨⟨D0,D1,D2,D3⟩,zc_ _⟩
   refine wTk 0 ?_
   refine wTk 1 ?_
   refine wTk 2 ?_
   refine wTk 3 ?_
   refine wTk 4 ?_
   refine wTn 5 ?_
   refine wTn 6 ?_
   refine wTn 7 ?_
   refine wTn 8 ?_
   refine wTn 9 ?_
   refine wTn 10 ?_
   refine wTn 11 ?_
   refine wTn 12 ?_
   refine wTn 13 ?_
   refine wTk 14 ?_
   refine wDn ?_
   obtain ⟨⟨E0,E1,E2,E3⟩,hB3⟩:=hH
   replace HB0:=ze_ HB0 hB3
   replace hR:Hid (zk_ wr.drew ao l):=hR.out.next hB3
   clear hG
   go_wp2
   rcases hR.out with h' | ⟨q,off,rfl,h2⟩
   ·cases ao with
    | none=>
     subst h'
     have hck':((([]:List Sib).length:Nat):Int)≤(cap:Int):=by omega
     have SrcT:zG_ wr.drew _ _ (([]:List Sib).take 0):=(wu_:zG_ _ none 0 [])
     have SrcD:zG_ wr.drew _ _ (([]:List Sib).drop 0):=(wu_:zG_ _ none 0 [])
     refine wp_region_held_drew (S:=(fun w'=>(w'.cell? ⟨w.heap.size,0,none⟩=some (.int .i64 x.p)∧w'.cell? ⟨w.heap.size,1,none⟩=some (.int .i64 x.n)∧w'.cell? ⟨w.heap.size,2,none⟩=some (.int .i64 x.v)∧w'.cell? ⟨w.heap.size,3,none⟩=some (.bool x.d))∧Below wr.drew.heap.size wr.drew w')) (by kernel_rfl) ?_ (fun hH=>?_)
     ·(try dsimp only)
      exact ⟨⟨D0,D1,D2,D3⟩,zc_ _⟩
     refine wTk 1 ?_
     refine wTk 2 ?_
     refine wTk 3 ?_
     refine wTk 8 ?_
     refine wTk 9 ?_
     refine wTk 10 ?_
     refine wTk 5 ?_
     have HBs:Below wr.drew.heap.size wr.drew wr.drew.drew:=zc_ _
     refine wpAnyH_ready (rs:=[0,6]) (by kernel_rfl) (by simp) ?_
     refine AllReadyH.cons rfl (fun K hK=>?_) (AllReadyH.cons rfl (fun K hK=>?_) AllReadyH.nil)
     ·refine wLy ?_
      go_simp
      (try simp only [])
      have OW11:Own wr.drew ((wr.drew.drew).alloc (.cells #[] 89)) 89 (.slice (some ⟨wr.drew.heap.size,0,none⟩) 0 0) 0 []:=by simpa using Own.lit (e:=89) HBs
      have HBn:Below wr.drew.heap.size wr.drew ((wr.drew.drew).alloc (.cells #[] 89)):=HBs.trans ((zb_ _ _).mono HBs.size)
      refine hK.out _ _ ?_ (fun hH'=>?_)
      ·(try dsimp only)
       exact ⟨⟨za_ HBn D0 hz,za_ HBn D1 hz,za_ HBn D2 hz,za_ HBn D3 hz⟩,HBn⟩
      clear hK K
      clear hH
      have hH:=hH'
      clear hH'
      have HB11:Below wr.drew.heap.size wr.drew ((wr.drew.drew).alloc (.cells #[] 89)):=HBn
      clear HBn
      refine wLy ?_
      refine wpAnyH_ready (rs:=[4,6]) (by kernel_rfl) (by simp) ?_
      refine AllReadyH.cons rfl (fun K hK=>?_) (AllReadyH.cons rfl (fun K hK=>?_) AllReadyH.nil)
      focus
       rw [if_pos (by rfl)]
       refine zp_ (.tmp 23) (.tmp 26) 33 rfl 89 i0 (.agg #[.int .i64 0,.int .i64 0,.int .i64 0,.bool false]) 32 Tryz.underlying33 HI.out.1 HI.out.2.1 HI.out.2.2.1 HI.out.2.2.2 rfl (.slice (some ⟨wr.drew.heap.size,0,none⟩) 0 0) _ _ rfl OW11.1 _ _ _ _ rfl (SrcT.next HB11) (by unfold maxLen; (try simp); (try omega)) (by (try simp); (try omega)) ?_
       intro v12 w12 ho hg
       have OW12:=OW11.app ho hg
       have HBn:=OW12.2.1
       clear ho hg
       refine hK.out _ _ ?_ (fun hH'=>?_)
       ·(try dsimp only)
        exact ⟨⟨za_ HBn D0 hz,za_ HBn D1 hz,za_ HBn D2 hz,za_ HBn D3 hz⟩,HBn⟩
       clear hK K
       clear hH
       have hH:=hH'
       clear hH'
       have HB12:Below wr.drew.heap.size wr.drew (w12):=HBn
       clear HBn
       refine wLy ?_
       refine wRd 6 (fun K hK=>?_)
       go_simp
       (try simp only [])
       have OW13:=OW12.step (zb_ _ ((.cells #[.int .i64 x.p,.int .i64 x.n,.int .i64 x.v,.bool x.d] 89)))
       have SO13:zG_ ((w12).alloc (.cells #[.int .i64 x.p,.int .i64 x.n,.int .i64 x.v,.bool x.d] 89)) (some ⟨w12.heap.size,0,none⟩) 1 [x]:=by simpa using (z6_ (W:=w12) (x:=x) (t:=89))
       have HBn:Below wr.drew.heap.size wr.drew ((w12).alloc (.cells #[.int .i64 x.p,.int .i64 x.n,.int .i64 x.v,.bool x.d] 89)):=HB12.trans ((zb_ _ _).mono HB12.size)
       refine hK.out _ _ ?_ (fun hH'=>?_)
       ·(try dsimp only)
        exact ⟨⟨za_ HBn D0 hz,za_ HBn D1 hz,za_ HBn D2 hz,za_ HBn D3 hz⟩,HBn⟩
       clear hK K
       clear hH
       have hH:=hH'
       clear hH'
       have HB13:Below wr.drew.heap.size wr.drew ((w12).alloc (.cells #[.int .i64 x.p,.int .i64 x.n,.int .i64 x.v,.bool x.d] 89)):=HBn
       clear HBn
       refine wLy ?_
       refine wpAnyH_ready (rs:=[7]) (by kernel_rfl) (by simp) ?_
       refine AllReadyH.cons rfl (fun K hK=>?_) AllReadyH.nil
       rw [if_pos (by rfl)]
       refine zp_ (.tmp 27) (.tmp 29) 33 rfl 89 i0 (.agg #[.int .i64 0,.int .i64 0,.int .i64 0,.bool false]) 32 Tryz.underlying33 HI.out.1 HI.out.2.1 HI.out.2.2.1 HI.out.2.2.2 rfl v12 _ _ rfl OW13.1 _ _ _ _ rfl SO13 (by unfold maxLen; (try simp); (try omega)) (by (try simp); (try omega)) ?_
      rotate_left
      focus
       refine wLy ?_
       go_simp
       (try simp only [])
       have OW12:=OW11.step (zb_ _ ((.cells #[.int .i64 x.p,.int .i64 x.n,.int .i64 x.v,.bool x.d] 89)))
       have SO12:zG_ (((wr.drew.drew).alloc (.cells #[] 89)).alloc (.cells #[.int .i64 x.p,.int .i64 x.n,.int .i64 x.v,.bool x.d] 89)) (some ⟨wr.drew.heap.size+1,0,none⟩) 1 [x]:=by simpa using (z6_ (W:=(wr.drew.drew).alloc (.cells #[] 89)) (x:=x) (t:=89))
       have HBn:Below wr.drew.heap.size wr.drew (((wr.drew.drew).alloc (.cells #[] 89)).alloc (.cells #[.int .i64 x.p,.int .i64 x.n,.int .i64 x.v,.bool x.d] 89)):=HB11.trans ((zb_ _ _).mono HB11.size)
       refine hK.out _ _ ?_ (fun hH'=>?_)
       ·(try dsimp only)
        exact ⟨⟨za_ HBn D0 hz,za_ HBn D1 hz,za_ HBn D2 hz,za_ HBn D3 hz⟩,HBn⟩
       clear hK K
       clear hH
       have hH:=hH'
       clear hH'
       have HB12:Below wr.drew.heap.size wr.drew (((wr.drew.drew).alloc (.cells #[] 89)).alloc (.cells #[.int .i64 x.p,.int .i64 x.n,.int .i64 x.v,.bool x.d] 89)):=HBn
       clear HBn
       refine wLy ?_
       refine wpAnyH_ready (rs:=[4]) (by kernel_rfl) (by simp) ?_
       refine AllReadyH.cons rfl (fun K hK=>?_) AllReadyH.nil
       rw [if_pos (by rfl)]
       refine zp_ (.tmp 23) (.tmp 26) 33 rfl 89 i0 (.agg #[.int .i64 0,.int .i64 0,.int .i64 0,.bool false]) 32 Tryz.underlying33 HI.out.1 HI.out.2.1 HI.out.2.2.1 HI.out.2.2.2 rfl (.slice (some ⟨wr.drew.heap.size,0,none⟩) 0 0) _ _ rfl OW12.1 _ _ _ _ rfl (SrcT.next HB12) (by unfold maxLen; (try simp); (try omega)) (by (try simp); (try omega)) ?_
       intro v13 w13 ho hg
       have OW13:=OW12.app ho hg
       have SO13:=xs_ SO12 hg (by simp [Value.ownBlock])
       have HBn:=OW13.2.1
       clear ho hg
       refine hK.out _ _ ?_ (fun hH'=>?_)
       ·(try dsimp only)
        exact ⟨⟨za_ HBn D0 hz,za_ HBn D1 hz,za_ HBn D2 hz,za_ HBn D3 hz⟩,HBn⟩
       clear hK K
       clear hH
       have hH:=hH'
       clear hH'
       have HB13:Below wr.drew.heap.size wr.drew (w13):=HBn
       clear HBn
       refine wLy ?_
       refine wpAnyH_ready (rs:=[7]) (by kernel_rfl) (by simp) ?_
       refine AllReadyH.cons rfl (fun K hK=>?_) AllReadyH.nil
       rw [if_pos (by rfl)]
       refine zp_ (.tmp 27) (.tmp 29) 33 rfl 89 i0 (.agg #[.int .i64 0,.int .i64 0,.int .i64 0,.bool false]) 32 Tryz.underlying33 HI.out.1 HI.out.2.1 HI.out.2.2.1 HI.out.2.2.2 rfl v13 _ _ rfl OW13.1 _ _ _ _ rfl SO13 (by unfold maxLen; (try simp); (try omega)) (by (try simp); (try omega)) ?_
      rotate_left
      all_goals
       intro v14 w14 ho hg
       have OW14:=OW13.app ho hg
       have HBn:=OW14.2.1
       clear ho hg
       refine hK.out _ _ ?_ (fun hH'=>?_)
       ·(try dsimp only)
        exact ⟨⟨za_ HBn D0 hz,za_ HBn D1 hz,za_ HBn D2 hz,za_ HBn D3 hz⟩,HBn⟩
       clear hK K
       clear hH
       have hH:=hH'
       clear hH'
       have HB14:Below wr.drew.heap.size wr.drew (w14):=HBn
       clear HBn
       refine wLy ?_
       refine wpAnyH_ready (rs:=[11]) (by kernel_rfl) (by simp) ?_
       refine AllReadyH.cons rfl (fun K hK=>?_) AllReadyH.nil
       rw [if_pos (by rfl)]
       refine zp_ (.tmp 30) (.tmp 33) 33 rfl 89 i0 (.agg #[.int .i64 0,.int .i64 0,.int .i64 0,.bool false]) 32 Tryz.underlying33 HI.out.1 HI.out.2.1 HI.out.2.2.1 HI.out.2.2.2 rfl v14 _ _ rfl OW14.1 _ _ _ _ rfl (SrcD.next HB14) (by unfold maxLen; (try simp); (try omega)) (by (try simp); (try omega)) ?_
       intro v15 w15 ho hg
       have OW15:=OW14.app ho hg
       have HBn:=OW15.2.1
       clear ho hg
       refine hK.out _ _ ?_ (fun hH'=>?_)
       ·(try dsimp only)
        exact ⟨⟨za_ HBn D0 hz,za_ HBn D1 hz,za_ HBn D2 hz,za_ HBn D3 hz⟩,HBn⟩
       clear hK K
       clear hH
       have hH:=hH'
       clear hH'
       have HB15:Below wr.drew.heap.size wr.drew (w15):=HBn
       clear HBn
       refine wLy ?_
       refine wTk 12 ?_
       refine wDn ?_
       have O9:Hid (Own wr.drew w15 89 v15 _ _):=OW15
       clear hH D0 D1 D2 D3
       go_wp2
       all_goals go_ret
       all_goals exact ⟨_,rfl,zA_ O9.out.1 (by rw [← HPT.out]; (try simp); (try omega)) (by rw [← HPT.out]; simp [zz_,flat]),(Gro.of_below HB0.out).trans O9.out.gro⟩
     ·refine wLy ?_
      go_simp
      (try simp only [])
      have SO11:zG_ ((wr.drew.drew).alloc (.cells #[.int .i64 x.p,.int .i64 x.n,.int .i64 x.v,.bool x.d] 89)) (some ⟨wr.drew.heap.size,0,none⟩) 1 [x]:=by simpa using (z6_ (W:=wr.drew.drew) (x:=x) (t:=89))
      have HBn:Below wr.drew.heap.size wr.drew ((wr.drew.drew).alloc (.cells #[.int .i64 x.p,.int .i64 x.n,.int .i64 x.v,.bool x.d] 89)):=HBs.trans ((zb_ _ _).mono HBs.size)
      refine hK.out _ _ ?_ (fun hH'=>?_)
      ·(try dsimp only)
       exact ⟨⟨za_ HBn D0 hz,za_ HBn D1 hz,za_ HBn D2 hz,za_ HBn D3 hz⟩,HBn⟩
      clear hK K
      clear hH
      have hH:=hH'
      clear hH'
      have HB11:Below wr.drew.heap.size wr.drew ((wr.drew.drew).alloc (.cells #[.int .i64 x.p,.int .i64 x.n,.int .i64 x.v,.bool x.d] 89)):=HBn
      clear HBn
      refine wLy ?_
      refine wRd 0 (fun K hK=>?_)
      go_simp
      (try simp only [])
      have OW12:Own wr.drew (((wr.drew.drew).alloc (.cells #[.int .i64 x.p,.int .i64 x.n,.int .i64 x.v,.bool x.d] 89)).alloc (.cells #[] 89)) 89 (.slice (some ⟨wr.drew.heap.size+1,0,none⟩) 0 0) 0 []:=by simpa using Own.lit (e:=89) HB11
      have SO12:=SO11.next (zb_ _ ((.cells #[] 89)))
      have HBn:Below wr.drew.heap.size wr.drew (((wr.drew.drew).alloc (.cells #[.int .i64 x.p,.int .i64 x.n,.int .i64 x.v,.bool x.d] 89)).alloc (.cells #[] 89)):=HB11.trans ((zb_ _ _).mono HB11.size)
      refine hK.out _ _ ?_ (fun hH'=>?_)
      ·(try dsimp only)
       exact ⟨⟨za_ HBn D0 hz,za_ HBn D1 hz,za_ HBn D2 hz,za_ HBn D3 hz⟩,HBn⟩
      clear hK K
      clear hH
      have hH:=hH'
      clear hH'
      have HB12:Below wr.drew.heap.size wr.drew (((wr.drew.drew).alloc (.cells #[.int .i64 x.p,.int .i64 x.n,.int .i64 x.v,.bool x.d] 89)).alloc (.cells #[] 89)):=HBn
      clear HBn
      refine wLy ?_
      refine wpAnyH_ready (rs:=[4]) (by kernel_rfl) (by simp) ?_
      refine AllReadyH.cons rfl (fun K hK=>?_) AllReadyH.nil
      rw [if_pos (by rfl)]
      refine zp_ (.tmp 23) (.tmp 26) 33 rfl 89 i0 (.agg #[.int .i64 0,.int .i64 0,.int .i64 0,.bool false]) 32 Tryz.underlying33 HI.out.1 HI.out.2.1 HI.out.2.2.1 HI.out.2.2.2 rfl (.slice (some ⟨wr.drew.heap.size+1,0,none⟩) 0 0) _ _ rfl OW12.1 _ _ _ _ rfl (SrcT.next HB12) (by unfold maxLen; (try simp); (try omega)) (by (try simp); (try omega)) ?_
      intro v13 w13 ho hg
      have OW13:=OW12.app ho hg
      have SO13:=xs_ SO12 hg (by simp [Value.ownBlock])
      have HBn:=OW13.2.1
      clear ho hg
      refine hK.out _ _ ?_ (fun hH'=>?_)
      ·(try dsimp only)
       exact ⟨⟨za_ HBn D0 hz,za_ HBn D1 hz,za_ HBn D2 hz,za_ HBn D3 hz⟩,HBn⟩
      clear hK K
      clear hH
      have hH:=hH'
      clear hH'
      have HB13:Below wr.drew.heap.size wr.drew (w13):=HBn
      clear HBn
      refine wLy ?_
      refine wpAnyH_ready (rs:=[7]) (by kernel_rfl) (by simp) ?_
      refine AllReadyH.cons rfl (fun K hK=>?_) AllReadyH.nil
      rw [if_pos (by rfl)]
      refine zp_ (.tmp 27) (.tmp 29) 33 rfl 89 i0 (.agg #[.int .i64 0,.int .i64 0,.int .i64 0,.bool false]) 32 Tryz.underlying33 HI.out.1 HI.out.2.1 HI.out.2.2.1 HI.out.2.2.2 rfl v13 _ _ rfl OW13.1 _ _ _ _ rfl SO13 (by unfold maxLen; (try simp); (try omega)) (by (try simp); (try omega)) ?_
      intro v14 w14 ho hg
      have OW14:=OW13.app ho hg
      have HBn:=OW14.2.1
      clear ho hg
      refine hK.out _ _ ?_ (fun hH'=>?_)
      ·(try dsimp only)
       exact ⟨⟨za_ HBn D0 hz,za_ HBn D1 hz,za_ HBn D2 hz,za_ HBn D3 hz⟩,HBn⟩
      clear hK K
      clear hH
      have hH:=hH'
      clear hH'
      have HB14:Below wr.drew.heap.size wr.drew (w14):=HBn
      clear HBn
      refine wLy ?_
      refine wpAnyH_ready (rs:=[11]) (by kernel_rfl) (by simp) ?_
      refine AllReadyH.cons rfl (fun K hK=>?_) AllReadyH.nil
      rw [if_pos (by rfl)]
      refine zp_ (.tmp 30) (.tmp 33) 33 rfl 89 i0 (.agg #[.int .i64 0,.int .i64 0,.int .i64 0,.bool false]) 32 Tryz.underlying33 HI.out.1 HI.out.2.1 HI.out.2.2.1 HI.out.2.2.2 rfl v14 _ _ rfl OW14.1 _ _ _ _ rfl (SrcD.next HB14) (by unfold maxLen; (try simp); (try omega)) (by (try simp); (try omega)) ?_
      intro v15 w15 ho hg
      have OW15:=OW14.app ho hg
      have HBn:=OW15.2.1
      clear ho hg
      refine hK.out _ _ ?_ (fun hH'=>?_)
      ·(try dsimp only)
       exact ⟨⟨za_ HBn D0 hz,za_ HBn D1 hz,za_ HBn D2 hz,za_ HBn D3 hz⟩,HBn⟩
      clear hK K
      clear hH
      have hH:=hH'
      clear hH'
      have HB15:Below wr.drew.heap.size wr.drew (w15):=HBn
      clear HBn
      refine wLy ?_
      refine wTk 12 ?_
      refine wDn ?_
      have O9:Hid (Own wr.drew w15 89 v15 _ _):=OW15
      clear hH D0 D1 D2 D3
      go_wp2
      all_goals go_ret
      all_goals exact ⟨_,rfl,zA_ O9.out.1 (by rw [← HPT.out]; (try simp); (try omega)) (by rw [← HPT.out]; simp [zz_,flat]),(Gro.of_below HB0.out).trans O9.out.gro⟩
    | some ad=>
     subst h'
     have hck':((([]:List Sib).length:Nat):Int)≤(cap:Int):=by omega
     have SrcT:zG_ wr.drew _ _ (([]:List Sib).take 0):=(wu_:zG_ _ (some ad) 0 [])
     have SrcD:zG_ wr.drew _ _ (([]:List Sib).drop 0):=(wu_:zG_ _ (some ad) 0 [])
     refine wp_region_held_drew (S:=(fun w'=>(w'.cell? ⟨w.heap.size,0,none⟩=some (.int .i64 x.p)∧w'.cell? ⟨w.heap.size,1,none⟩=some (.int .i64 x.n)∧w'.cell? ⟨w.heap.size,2,none⟩=some (.int .i64 x.v)∧w'.cell? ⟨w.heap.size,3,none⟩=some (.bool x.d))∧Below wr.drew.heap.size wr.drew w')) (by kernel_rfl) ?_ (fun hH=>?_)
     ·(try dsimp only)
      exact ⟨⟨D0,D1,D2,D3⟩,zc_ _⟩
     refine wTk 1 ?_
     refine wTk 2 ?_
     refine wTk 3 ?_
     refine wTk 8 ?_
     refine wTk 9 ?_
     refine wTk 10 ?_
     refine wTk 5 ?_
     have HBs:Below wr.drew.heap.size wr.drew wr.drew.drew:=zc_ _
     refine wpAnyH_ready (rs:=[0,6]) (by kernel_rfl) (by simp) ?_
     refine AllReadyH.cons rfl (fun K hK=>?_) (AllReadyH.cons rfl (fun K hK=>?_) AllReadyH.nil)
     ·refine wLy ?_
      go_simp
      (try simp only [])
      have OW11:Own wr.drew ((wr.drew.drew).alloc (.cells #[] 89)) 89 (.slice (some ⟨wr.drew.heap.size,0,none⟩) 0 0) 0 []:=by simpa using Own.lit (e:=89) HBs
      have HBn:Below wr.drew.heap.size wr.drew ((wr.drew.drew).alloc (.cells #[] 89)):=HBs.trans ((zb_ _ _).mono HBs.size)
      refine hK.out _ _ ?_ (fun hH'=>?_)
      ·(try dsimp only)
       exact ⟨⟨za_ HBn D0 hz,za_ HBn D1 hz,za_ HBn D2 hz,za_ HBn D3 hz⟩,HBn⟩
      clear hK K
      clear hH
      have hH:=hH'
      clear hH'
      have HB11:Below wr.drew.heap.size wr.drew ((wr.drew.drew).alloc (.cells #[] 89)):=HBn
      clear HBn
      refine wLy ?_
      refine wpAnyH_ready (rs:=[4,6]) (by kernel_rfl) (by simp) ?_
      refine AllReadyH.cons rfl (fun K hK=>?_) (AllReadyH.cons rfl (fun K hK=>?_) AllReadyH.nil)
      focus
       rw [if_pos (by rfl)]
       refine zp_ (.tmp 23) (.tmp 26) 33 rfl 89 i0 (.agg #[.int .i64 0,.int .i64 0,.int .i64 0,.bool false]) 32 Tryz.underlying33 HI.out.1 HI.out.2.1 HI.out.2.2.1 HI.out.2.2.2 rfl (.slice (some ⟨wr.drew.heap.size,0,none⟩) 0 0) _ _ rfl OW11.1 _ _ _ _ rfl (SrcT.next HB11) (by unfold maxLen; (try simp); (try omega)) (by (try simp); (try omega)) ?_
       intro v12 w12 ho hg
       have OW12:=OW11.app ho hg
       have HBn:=OW12.2.1
       clear ho hg
       refine hK.out _ _ ?_ (fun hH'=>?_)
       ·(try dsimp only)
        exact ⟨⟨za_ HBn D0 hz,za_ HBn D1 hz,za_ HBn D2 hz,za_ HBn D3 hz⟩,HBn⟩
       clear hK K
       clear hH
       have hH:=hH'
       clear hH'
       have HB12:Below wr.drew.heap.size wr.drew (w12):=HBn
       clear HBn
       refine wLy ?_
       refine wRd 6 (fun K hK=>?_)
       go_simp
       (try simp only [])
       have OW13:=OW12.step (zb_ _ ((.cells #[.int .i64 x.p,.int .i64 x.n,.int .i64 x.v,.bool x.d] 89)))
       have SO13:zG_ ((w12).alloc (.cells #[.int .i64 x.p,.int .i64 x.n,.int .i64 x.v,.bool x.d] 89)) (some ⟨w12.heap.size,0,none⟩) 1 [x]:=by simpa using (z6_ (W:=w12) (x:=x) (t:=89))
       have HBn:Below wr.drew.heap.size wr.drew ((w12).alloc (.cells #[.int .i64 x.p,.int .i64 x.n,.int .i64 x.v,.bool x.d] 89)):=HB12.trans ((zb_ _ _).mono HB12.size)
       refine hK.out _ _ ?_ (fun hH'=>?_)
       ·(try dsimp only)
        exact ⟨⟨za_ HBn D0 hz,za_ HBn D1 hz,za_ HBn D2 hz,za_ HBn D3 hz⟩,HBn⟩
       clear hK K
       clear hH
       have hH:=hH'
       clear hH'
       have HB13:Below wr.drew.heap.size wr.drew ((w12).alloc (.cells #[.int .i64 x.p,.int .i64 x.n,.int .i64 x.v,.bool x.d] 89)):=HBn
       clear HBn
       refine wLy ?_
       refine wpAnyH_ready (rs:=[7]) (by kernel_rfl) (by simp) ?_
       refine AllReadyH.cons rfl (fun K hK=>?_) AllReadyH.nil
       rw [if_pos (by rfl)]
       refine zp_ (.tmp 27) (.tmp 29) 33 rfl 89 i0 (.agg #[.int .i64 0,.int .i64 0,.int .i64 0,.bool false]) 32 Tryz.underlying33 HI.out.1 HI.out.2.1 HI.out.2.2.1 HI.out.2.2.2 rfl v12 _ _ rfl OW13.1 _ _ _ _ rfl SO13 (by unfold maxLen; (try simp); (try omega)) (by (try simp); (try omega)) ?_
      rotate_left
      focus
       refine wLy ?_
       go_simp
       (try simp only [])
       have OW12:=OW11.step (zb_ _ ((.cells #[.int .i64 x.p,.int .i64 x.n,.int .i64 x.v,.bool x.d] 89)))
       have SO12:zG_ (((wr.drew.drew).alloc (.cells #[] 89)).alloc (.cells #[.int .i64 x.p,.int .i64 x.n,.int .i64 x.v,.bool x.d] 89)) (some ⟨wr.drew.heap.size+1,0,none⟩) 1 [x]:=by simpa using (z6_ (W:=(wr.drew.drew).alloc (.cells #[] 89)) (x:=x) (t:=89))
       have HBn:Below wr.drew.heap.size wr.drew (((wr.drew.drew).alloc (.cells #[] 89)).alloc (.cells #[.int .i64 x.p,.int .i64 x.n,.int .i64 x.v,.bool x.d] 89)):=HB11.trans ((zb_ _ _).mono HB11.size)
       refine hK.out _ _ ?_ (fun hH'=>?_)
       ·(try dsimp only)
        exact ⟨⟨za_ HBn D0 hz,za_ HBn D1 hz,za_ HBn D2 hz,za_ HBn D3 hz⟩,HBn⟩
       clear hK K
       clear hH
       have hH:=hH'
       clear hH'
       have HB12:Below wr.drew.heap.size wr.drew (((wr.drew.drew).alloc (.cells #[] 89)).alloc (.cells #[.int .i64 x.p,.int .i64 x.n,.int .i64 x.v,.bool x.d] 89)):=HBn
       clear HBn
       refine wLy ?_
       refine wpAnyH_ready (rs:=[4]) (by kernel_rfl) (by simp) ?_
       refine AllReadyH.cons rfl (fun K hK=>?_) AllReadyH.nil
       rw [if_pos (by rfl)]
       refine zp_ (.tmp 23) (.tmp 26) 33 rfl 89 i0 (.agg #[.int .i64 0,.int .i64 0,.int .i64 0,.bool false]) 32 Tryz.underlying33 HI.out.1 HI.out.2.1 HI.out.2.2.1 HI.out.2.2.2 rfl (.slice (some ⟨wr.drew.heap.size,0,none⟩) 0 0) _ _ rfl OW12.1 _ _ _ _ rfl (SrcT.next HB12) (by unfold maxLen; (try simp); (try omega)) (by (try simp); (try omega)) ?_
       intro v13 w13 ho hg
       have OW13:=OW12.app ho hg
       have SO13:=xs_ SO12 hg (by simp [Value.ownBlock])
       have HBn:=OW13.2.1
       clear ho hg
       refine hK.out _ _ ?_ (fun hH'=>?_)
       ·(try dsimp only)
        exact ⟨⟨za_ HBn D0 hz,za_ HBn D1 hz,za_ HBn D2 hz,za_ HBn D3 hz⟩,HBn⟩
       clear hK K
       clear hH
       have hH:=hH'
       clear hH'
       have HB13:Below wr.drew.heap.size wr.drew (w13):=HBn
       clear HBn
       refine wLy ?_
       refine wpAnyH_ready (rs:=[7]) (by kernel_rfl) (by simp) ?_
       refine AllReadyH.cons rfl (fun K hK=>?_) AllReadyH.nil
       rw [if_pos (by rfl)]
       refine zp_ (.tmp 27) (.tmp 29) 33 rfl 89 i0 (.agg #[.int .i64 0,.int .i64 0,.int .i64 0,.bool false]) 32 Tryz.underlying33 HI.out.1 HI.out.2.1 HI.out.2.2.1 HI.out.2.2.2 rfl v13 _ _ rfl OW13.1 _ _ _ _ rfl SO13 (by unfold maxLen; (try simp); (try omega)) (by (try simp); (try omega)) ?_
      rotate_left
      all_goals
       intro v14 w14 ho hg
       have OW14:=OW13.app ho hg
       have HBn:=OW14.2.1
       clear ho hg
       refine hK.out _ _ ?_ (fun hH'=>?_)
       ·(try dsimp only)
        exact ⟨⟨za_ HBn D0 hz,za_ HBn D1 hz,za_ HBn D2 hz,za_ HBn D3 hz⟩,HBn⟩
       clear hK K
       clear hH
       have hH:=hH'
       clear hH'
       have HB14:Below wr.drew.heap.size wr.drew (w14):=HBn
       clear HBn
       refine wLy ?_
       refine wpAnyH_ready (rs:=[11]) (by kernel_rfl) (by simp) ?_
       refine AllReadyH.cons rfl (fun K hK=>?_) AllReadyH.nil
       rw [if_pos (by rfl)]
       refine zp_ (.tmp 30) (.tmp 33) 33 rfl 89 i0 (.agg #[.int .i64 0,.int .i64 0,.int .i64 0,.bool false]) 32 Tryz.underlying33 HI.out.1 HI.out.2.1 HI.out.2.2.1 HI.out.2.2.2 rfl v14 _ _ rfl OW14.1 _ _ _ _ rfl (SrcD.next HB14) (by unfold maxLen; (try simp); (try omega)) (by (try simp); (try omega)) ?_
       intro v15 w15 ho hg
       have OW15:=OW14.app ho hg
       have HBn:=OW15.2.1
       clear ho hg
       refine hK.out _ _ ?_ (fun hH'=>?_)
       ·(try dsimp only)
        exact ⟨⟨za_ HBn D0 hz,za_ HBn D1 hz,za_ HBn D2 hz,za_ HBn D3 hz⟩,HBn⟩
       clear hK K
       clear hH
       have hH:=hH'
       clear hH'
       have HB15:Below wr.drew.heap.size wr.drew (w15):=HBn
       clear HBn
       refine wLy ?_
       refine wTk 12 ?_
       refine wDn ?_
       have O9:Hid (Own wr.drew w15 89 v15 _ _):=OW15
       clear hH D0 D1 D2 D3
       go_wp2
       all_goals go_ret
       all_goals exact ⟨_,rfl,zA_ O9.out.1 (by rw [← HPT.out]; (try simp); (try omega)) (by rw [← HPT.out]; simp [zz_,flat]),(Gro.of_below HB0.out).trans O9.out.gro⟩
     ·refine wLy ?_
      go_simp
      (try simp only [])
      have SO11:zG_ ((wr.drew.drew).alloc (.cells #[.int .i64 x.p,.int .i64 x.n,.int .i64 x.v,.bool x.d] 89)) (some ⟨wr.drew.heap.size,0,none⟩) 1 [x]:=by simpa using (z6_ (W:=wr.drew.drew) (x:=x) (t:=89))
      have HBn:Below wr.drew.heap.size wr.drew ((wr.drew.drew).alloc (.cells #[.int .i64 x.p,.int .i64 x.n,.int .i64 x.v,.bool x.d] 89)):=HBs.trans ((zb_ _ _).mono HBs.size)
      refine hK.out _ _ ?_ (fun hH'=>?_)
      ·(try dsimp only)
       exact ⟨⟨za_ HBn D0 hz,za_ HBn D1 hz,za_ HBn D2 hz,za_ HBn D3 hz⟩,HBn⟩
      clear hK K
      clear hH
      have hH:=hH'
      clear hH'
      have HB11:Below wr.drew.heap.size wr.drew ((wr.drew.drew).alloc (.cells #[.int .i64 x.p,.int .i64 x.n,.int .i64 x.v,.bool x.d] 89)):=HBn
      clear HBn
      refine wLy ?_
      refine wRd 0 (fun K hK=>?_)
      go_simp
      (try simp only [])
      have OW12:Own wr.drew (((wr.drew.drew).alloc (.cells #[.int .i64 x.p,.int .i64 x.n,.int .i64 x.v,.bool x.d] 89)).alloc (.cells #[] 89)) 89 (.slice (some ⟨wr.drew.heap.size+1,0,none⟩) 0 0) 0 []:=by simpa using Own.lit (e:=89) HB11
      have SO12:=SO11.next (zb_ _ ((.cells #[] 89)))
      have HBn:Below wr.drew.heap.size wr.drew (((wr.drew.drew).alloc (.cells #[.int .i64 x.p,.int .i64 x.n,.int .i64 x.v,.bool x.d] 89)).alloc (.cells #[] 89)):=HB11.trans ((zb_ _ _).mono HB11.size)
      refine hK.out _ _ ?_ (fun hH'=>?_)
      ·(try dsimp only)
       exact ⟨⟨za_ HBn D0 hz,za_ HBn D1 hz,za_ HBn D2 hz,za_ HBn D3 hz⟩,HBn⟩
      clear hK K
      clear hH
      have hH:=hH'
      clear hH'
      have HB12:Below wr.drew.heap.size wr.drew (((wr.drew.drew).alloc (.cells #[.int .i64 x.p,.int .i64 x.n,.int .i64 x.v,.bool x.d] 89)).alloc (.cells #[] 89)):=HBn
      clear HBn
      refine wLy ?_
      refine wpAnyH_ready (rs:=[4]) (by kernel_rfl) (by simp) ?_
      refine AllReadyH.cons rfl (fun K hK=>?_) AllReadyH.nil
      rw [if_pos (by rfl)]
      refine zp_ (.tmp 23) (.tmp 26) 33 rfl 89 i0 (.agg #[.int .i64 0,.int .i64 0,.int .i64 0,.bool false]) 32 Tryz.underlying33 HI.out.1 HI.out.2.1 HI.out.2.2.1 HI.out.2.2.2 rfl (.slice (some ⟨wr.drew.heap.size+1,0,none⟩) 0 0) _ _ rfl OW12.1 _ _ _ _ rfl (SrcT.next HB12) (by unfold maxLen; (try simp); (try omega)) (by (try simp); (try omega)) ?_
      intro v13 w13 ho hg
      have OW13:=OW12.app ho hg
      have SO13:=xs_ SO12 hg (by simp [Value.ownBlock])
      have HBn:=OW13.2.1
      clear ho hg
      refine hK.out _ _ ?_ (fun hH'=>?_)
      ·(try dsimp only)
       exact ⟨⟨za_ HBn D0 hz,za_ HBn D1 hz,za_ HBn D2 hz,za_ HBn D3 hz⟩,HBn⟩
      clear hK K
      clear hH
      have hH:=hH'
      clear hH'
      have HB13:Below wr.drew.heap.size wr.drew (w13):=HBn
      clear HBn
      refine wLy ?_
      refine wpAnyH_ready (rs:=[7]) (by kernel_rfl) (by simp) ?_
      refine AllReadyH.cons rfl (fun K hK=>?_) AllReadyH.nil
      rw [if_pos (by rfl)]
      refine zp_ (.tmp 27) (.tmp 29) 33 rfl 89 i0 (.agg #[.int .i64 0,.int .i64 0,.int .i64 0,.bool false]) 32 Tryz.underlying33 HI.out.1 HI.out.2.1 HI.out.2.2.1 HI.out.2.2.2 rfl v13 _ _ rfl OW13.1 _ _ _ _ rfl SO13 (by unfold maxLen; (try simp); (try omega)) (by (try simp); (try omega)) ?_
      intro v14 w14 ho hg
      have OW14:=OW13.app ho hg
      have HBn:=OW14.2.1
      clear ho hg
      refine hK.out _ _ ?_ (fun hH'=>?_)
      ·(try dsimp only)
       exact ⟨⟨za_ HBn D0 hz,za_ HBn D1 hz,za_ HBn D2 hz,za_ HBn D3 hz⟩,HBn⟩
      clear hK K
      clear hH
      have hH:=hH'
      clear hH'
      have HB14:Below wr.drew.heap.size wr.drew (w14):=HBn
      clear HBn
      refine wLy ?_
      refine wpAnyH_ready (rs:=[11]) (by kernel_rfl) (by simp) ?_
      refine AllReadyH.cons rfl (fun K hK=>?_) AllReadyH.nil
      rw [if_pos (by rfl)]
      refine zp_ (.tmp 30) (.tmp 33) 33 rfl 89 i0 (.agg #[.int .i64 0,.int .i64 0,.int .i64 0,.bool false]) 32 Tryz.underlying33 HI.out.1 HI.out.2.1 HI.out.2.2.1 HI.out.2.2.2 rfl v14 _ _ rfl OW14.1 _ _ _ _ rfl (SrcD.next HB14) (by unfold maxLen; (try simp); (try omega)) (by (try simp); (try omega)) ?_
      intro v15 w15 ho hg
      have OW15:=OW14.app ho hg
      have HBn:=OW15.2.1
      clear ho hg
      refine hK.out _ _ ?_ (fun hH'=>?_)
      ·(try dsimp only)
       exact ⟨⟨za_ HBn D0 hz,za_ HBn D1 hz,za_ HBn D2 hz,za_ HBn D3 hz⟩,HBn⟩
      clear hK K
      clear hH
      have hH:=hH'
      clear hH'
      have HB15:Below wr.drew.heap.size wr.drew (w15):=HBn
      clear HBn
      refine wLy ?_
      refine wTk 12 ?_
      refine wDn ?_
      have O9:Hid (Own wr.drew w15 89 v15 _ _):=OW15
      clear hH D0 D1 D2 D3
      go_wp2
      all_goals go_ret
      all_goals exact ⟨_,rfl,zA_ O9.out.1 (by rw [← HPT.out]; (try simp); (try omega)) (by rw [← HPT.out]; simp [zz_,flat]),(Gro.of_below HB0.out).trans O9.out.gro⟩
   ·clear h2
    have hck':(l.length:Int)≤(cap:Int):=by omega
    have SrcT:zG_ wr.drew _ _ (l.take l.length):=tX_ hk hR.out
    have SrcD:zG_ wr.drew _ _ (l.drop l.length):=uo_ hcap hR.out
    refine wp_region_held_drew (S:=(fun w'=>(w'.cell? ⟨w.heap.size,0,none⟩=some (.int .i64 x.p)∧w'.cell? ⟨w.heap.size,1,none⟩=some (.int .i64 x.n)∧w'.cell? ⟨w.heap.size,2,none⟩=some (.int .i64 x.v)∧w'.cell? ⟨w.heap.size,3,none⟩=some (.bool x.d))∧Below wr.drew.heap.size wr.drew w')) (by kernel_rfl) ?_ (fun hH=>?_)
    ·(try dsimp only)
     exact ⟨⟨D0,D1,D2,D3⟩,zc_ _⟩
    refine wTk 1 ?_
    refine wTk 2 ?_
    refine wTk 3 ?_
    refine wTk 8 ?_
    refine wTk 9 ?_
    refine wTk 10 ?_
    refine wTk 5 ?_
    have HBs:Below wr.drew.heap.size wr.drew wr.drew.drew:=zc_ _
    refine wpAnyH_ready (rs:=[0,6]) (by kernel_rfl) (by simp) ?_
    refine AllReadyH.cons rfl (fun K hK=>?_) (AllReadyH.cons rfl (fun K hK=>?_) AllReadyH.nil)
    ·refine wLy ?_
     go_simp
     (try simp only [])
     have OW11:Own wr.drew ((wr.drew.drew).alloc (.cells #[] 89)) 89 (.slice (some ⟨wr.drew.heap.size,0,none⟩) 0 0) 0 []:=by simpa using Own.lit (e:=89) HBs
     have HBn:Below wr.drew.heap.size wr.drew ((wr.drew.drew).alloc (.cells #[] 89)):=HBs.trans ((zb_ _ _).mono HBs.size)
     refine hK.out _ _ ?_ (fun hH'=>?_)
     ·(try dsimp only)
      exact ⟨⟨za_ HBn D0 hz,za_ HBn D1 hz,za_ HBn D2 hz,za_ HBn D3 hz⟩,HBn⟩
     clear hK K
     clear hH
     have hH:=hH'
     clear hH'
     have HB11:Below wr.drew.heap.size wr.drew ((wr.drew.drew).alloc (.cells #[] 89)):=HBn
     clear HBn
     refine wLy ?_
     refine wpAnyH_ready (rs:=[4,6]) (by kernel_rfl) (by simp) ?_
     refine AllReadyH.cons rfl (fun K hK=>?_) (AllReadyH.cons rfl (fun K hK=>?_) AllReadyH.nil)
     focus
      rw [if_pos (by rfl)]
      refine zp_ (.tmp 23) (.tmp 26) 33 rfl 89 i0 (.agg #[.int .i64 0,.int .i64 0,.int .i64 0,.bool false]) 32 Tryz.underlying33 HI.out.1 HI.out.2.1 HI.out.2.2.1 HI.out.2.2.2 rfl (.slice (some ⟨wr.drew.heap.size,0,none⟩) 0 0) _ _ rfl OW11.1 _ _ _ _ rfl (SrcT.next HB11) (by unfold maxLen; (try simp); (try omega)) (by (try simp); (try omega)) ?_
      intro v12 w12 ho hg
      have OW12:=OW11.app ho hg
      have HBn:=OW12.2.1
      clear ho hg
      refine hK.out _ _ ?_ (fun hH'=>?_)
      ·(try dsimp only)
       exact ⟨⟨za_ HBn D0 hz,za_ HBn D1 hz,za_ HBn D2 hz,za_ HBn D3 hz⟩,HBn⟩
      clear hK K
      clear hH
      have hH:=hH'
      clear hH'
      have HB12:Below wr.drew.heap.size wr.drew (w12):=HBn
      clear HBn
      refine wLy ?_
      refine wRd 6 (fun K hK=>?_)
      go_simp
      (try simp only [])
      have OW13:=OW12.step (zb_ _ ((.cells #[.int .i64 x.p,.int .i64 x.n,.int .i64 x.v,.bool x.d] 89)))
      have SO13:zG_ ((w12).alloc (.cells #[.int .i64 x.p,.int .i64 x.n,.int .i64 x.v,.bool x.d] 89)) (some ⟨w12.heap.size,0,none⟩) 1 [x]:=by simpa using (z6_ (W:=w12) (x:=x) (t:=89))
      have HBn:Below wr.drew.heap.size wr.drew ((w12).alloc (.cells #[.int .i64 x.p,.int .i64 x.n,.int .i64 x.v,.bool x.d] 89)):=HB12.trans ((zb_ _ _).mono HB12.size)
      refine hK.out _ _ ?_ (fun hH'=>?_)
      ·(try dsimp only)
       exact ⟨⟨za_ HBn D0 hz,za_ HBn D1 hz,za_ HBn D2 hz,za_ HBn D3 hz⟩,HBn⟩
      clear hK K
      clear hH
      have hH:=hH'
      clear hH'
      have HB13:Below wr.drew.heap.size wr.drew ((w12).alloc (.cells #[.int .i64 x.p,.int .i64 x.n,.int .i64 x.v,.bool x.d] 89)):=HBn
      clear HBn
      refine wLy ?_
      refine wpAnyH_ready (rs:=[7]) (by kernel_rfl) (by simp) ?_
      refine AllReadyH.cons rfl (fun K hK=>?_) AllReadyH.nil
      rw [if_pos (by rfl)]
      refine zp_ (.tmp 27) (.tmp 29) 33 rfl 89 i0 (.agg #[.int .i64 0,.int .i64 0,.int .i64 0,.bool false]) 32 Tryz.underlying33 HI.out.1 HI.out.2.1 HI.out.2.2.1 HI.out.2.2.2 rfl v12 _ _ rfl OW13.1 _ _ _ _ rfl SO13 (by unfold maxLen; (try simp); (try omega)) (by (try simp); (try omega)) ?_
     rotate_left
     focus
      refine wLy ?_
      go_simp
      (try simp only [])
      have OW12:=OW11.step (zb_ _ ((.cells #[.int .i64 x.p,.int .i64 x.n,.int .i64 x.v,.bool x.d] 89)))
      have SO12:zG_ (((wr.drew.drew).alloc (.cells #[] 89)).alloc (.cells #[.int .i64 x.p,.int .i64 x.n,.int .i64 x.v,.bool x.d] 89)) (some ⟨wr.drew.heap.size+1,0,none⟩) 1 [x]:=by simpa using (z6_ (W:=(wr.drew.drew).alloc (.cells #[] 89)) (x:=x) (t:=89))
      have HBn:Below wr.drew.heap.size wr.drew (((wr.drew.drew).alloc (.cells #[] 89)).alloc (.cells #[.int .i64 x.p,.int .i64 x.n,.int .i64 x.v,.bool x.d] 89)):=HB11.trans ((zb_ _ _).mono HB11.size)
      refine hK.out _ _ ?_ (fun hH'=>?_)
      ·(try dsimp only)
       exact ⟨⟨za_ HBn D0 hz,za_ HBn D1 hz,za_ HBn D2 hz,za_ HBn D3 hz⟩,HBn⟩
      clear hK K
      clear hH
      have hH:=hH'
      clear hH'
      have HB12:Below wr.drew.heap.size wr.drew (((wr.drew.drew).alloc (.cells #[] 89)).alloc (.cells #[.int .i64 x.p,.int .i64 x.n,.int .i64 x.v,.bool x.d] 89)):=HBn
      clear HBn
      refine wLy ?_
      refine wpAnyH_ready (rs:=[4]) (by kernel_rfl) (by simp) ?_
      refine AllReadyH.cons rfl (fun K hK=>?_) AllReadyH.nil
      rw [if_pos (by rfl)]
      refine zp_ (.tmp 23) (.tmp 26) 33 rfl 89 i0 (.agg #[.int .i64 0,.int .i64 0,.int .i64 0,.bool false]) 32 Tryz.underlying33 HI.out.1 HI.out.2.1 HI.out.2.2.1 HI.out.2.2.2 rfl (.slice (some ⟨wr.drew.heap.size,0,none⟩) 0 0) _ _ rfl OW12.1 _ _ _ _ rfl (SrcT.next HB12) (by unfold maxLen; (try simp); (try omega)) (by (try simp); (try omega)) ?_
      intro v13 w13 ho hg
      have OW13:=OW12.app ho hg
      have SO13:=xs_ SO12 hg (by simp [Value.ownBlock])
      have HBn:=OW13.2.1
      clear ho hg
      refine hK.out _ _ ?_ (fun hH'=>?_)
      ·(try dsimp only)
       exact ⟨⟨za_ HBn D0 hz,za_ HBn D1 hz,za_ HBn D2 hz,za_ HBn D3 hz⟩,HBn⟩
      clear hK K
      clear hH
      have hH:=hH'
      clear hH'
      have HB13:Below wr.drew.heap.size wr.drew (w13):=HBn
      clear HBn
      refine wLy ?_
      refine wpAnyH_ready (rs:=[7]) (by kernel_rfl) (by simp) ?_
      refine AllReadyH.cons rfl (fun K hK=>?_) AllReadyH.nil
      rw [if_pos (by rfl)]
      refine zp_ (.tmp 27) (.tmp 29) 33 rfl 89 i0 (.agg #[.int .i64 0,.int .i64 0,.int .i64 0,.bool false]) 32 Tryz.underlying33 HI.out.1 HI.out.2.1 HI.out.2.2.1 HI.out.2.2.2 rfl v13 _ _ rfl OW13.1 _ _ _ _ rfl SO13 (by unfold maxLen; (try simp); (try omega)) (by (try simp); (try omega)) ?_
     rotate_left
     all_goals
      intro v14 w14 ho hg
      have OW14:=OW13.app ho hg
      have HBn:=OW14.2.1
      clear ho hg
      refine hK.out _ _ ?_ (fun hH'=>?_)
      ·(try dsimp only)
       exact ⟨⟨za_ HBn D0 hz,za_ HBn D1 hz,za_ HBn D2 hz,za_ HBn D3 hz⟩,HBn⟩
      clear hK K
      clear hH
      have hH:=hH'
      clear hH'
      have HB14:Below wr.drew.heap.size wr.drew (w14):=HBn
      clear HBn
      refine wLy ?_
      refine wpAnyH_ready (rs:=[11]) (by kernel_rfl) (by simp) ?_
      refine AllReadyH.cons rfl (fun K hK=>?_) AllReadyH.nil
      rw [if_pos (by rfl)]
      refine zp_ (.tmp 30) (.tmp 33) 33 rfl 89 i0 (.agg #[.int .i64 0,.int .i64 0,.int .i64 0,.bool false]) 32 Tryz.underlying33 HI.out.1 HI.out.2.1 HI.out.2.2.1 HI.out.2.2.2 rfl v14 _ _ rfl OW14.1 _ _ _ _ rfl (SrcD.next HB14) (by unfold maxLen; (try simp); (try omega)) (by (try simp); (try omega)) ?_
      intro v15 w15 ho hg
      have OW15:=OW14.app ho hg
      have HBn:=OW15.2.1
      clear ho hg
      refine hK.out _ _ ?_ (fun hH'=>?_)
      ·(try dsimp only)
       exact ⟨⟨za_ HBn D0 hz,za_ HBn D1 hz,za_ HBn D2 hz,za_ HBn D3 hz⟩,HBn⟩
      clear hK K
      clear hH
      have hH:=hH'
      clear hH'
      have HB15:Below wr.drew.heap.size wr.drew (w15):=HBn
      clear HBn
      refine wLy ?_
      refine wTk 12 ?_
      refine wDn ?_
      have O9:Hid (Own wr.drew w15 89 v15 _ _):=OW15
      clear hH D0 D1 D2 D3
      go_wp2
      all_goals go_ret
      all_goals exact ⟨_,rfl,zA_ O9.out.1 (by rw [← HPT.out]; (try simp); (try omega)) (by rw [← HPT.out]; simp [zz_,flat]),(Gro.of_below HB0.out).trans O9.out.gro⟩
    ·refine wLy ?_
     go_simp
     (try simp only [])
     have SO11:zG_ ((wr.drew.drew).alloc (.cells #[.int .i64 x.p,.int .i64 x.n,.int .i64 x.v,.bool x.d] 89)) (some ⟨wr.drew.heap.size,0,none⟩) 1 [x]:=by simpa using (z6_ (W:=wr.drew.drew) (x:=x) (t:=89))
     have HBn:Below wr.drew.heap.size wr.drew ((wr.drew.drew).alloc (.cells #[.int .i64 x.p,.int .i64 x.n,.int .i64 x.v,.bool x.d] 89)):=HBs.trans ((zb_ _ _).mono HBs.size)
     refine hK.out _ _ ?_ (fun hH'=>?_)
     ·(try dsimp only)
      exact ⟨⟨za_ HBn D0 hz,za_ HBn D1 hz,za_ HBn D2 hz,za_ HBn D3 hz⟩,HBn⟩
     clear hK K
     clear hH
     have hH:=hH'
     clear hH'
     have HB11:Below wr.drew.heap.size wr.drew ((wr.drew.drew).alloc (.cells #[.int .i64 x.p,.int .i64 x.n,.int .i64 x.v,.bool x.d] 89)):=HBn
     clear HBn
     refine wLy ?_
     refine wRd 0 (fun K hK=>?_)
     go_simp
     (try simp only [])
     have OW12:Own wr.drew (((wr.drew.drew).alloc (.cells #[.int .i64 x.p,.int .i64 x.n,.int .i64 x.v,.bool x.d] 89)).alloc (.cells #[] 89)) 89 (.slice (some ⟨wr.drew.heap.size+1,0,none⟩) 0 0) 0 []:=by simpa using Own.lit (e:=89) HB11
     have SO12:=SO11.next (zb_ _ ((.cells #[] 89)))
     have HBn:Below wr.drew.heap.size wr.drew (((wr.drew.drew).alloc (.cells #[.int .i64 x.p,.int .i64 x.n,.int .i64 x.v,.bool x.d] 89)).alloc (.cells #[] 89)):=HB11.trans ((zb_ _ _).mono HB11.size)
     refine hK.out _ _ ?_ (fun hH'=>?_)
     ·(try dsimp only)
      exact ⟨⟨za_ HBn D0 hz,za_ HBn D1 hz,za_ HBn D2 hz,za_ HBn D3 hz⟩,HBn⟩
     clear hK K
     clear hH
     have hH:=hH'
     clear hH'
     have HB12:Below wr.drew.heap.size wr.drew (((wr.drew.drew).alloc (.cells #[.int .i64 x.p,.int .i64 x.n,.int .i64 x.v,.bool x.d] 89)).alloc (.cells #[] 89)):=HBn
     clear HBn
     refine wLy ?_
     refine wpAnyH_ready (rs:=[4]) (by kernel_rfl) (by simp) ?_
     refine AllReadyH.cons rfl (fun K hK=>?_) AllReadyH.nil
     rw [if_pos (by rfl)]
     refine zp_ (.tmp 23) (.tmp 26) 33 rfl 89 i0 (.agg #[.int .i64 0,.int .i64 0,.int .i64 0,.bool false]) 32 Tryz.underlying33 HI.out.1 HI.out.2.1 HI.out.2.2.1 HI.out.2.2.2 rfl (.slice (some ⟨wr.drew.heap.size+1,0,none⟩) 0 0) _ _ rfl OW12.1 _ _ _ _ rfl (SrcT.next HB12) (by unfold maxLen; (try simp); (try omega)) (by (try simp); (try omega)) ?_
     intro v13 w13 ho hg
     have OW13:=OW12.app ho hg
     have SO13:=xs_ SO12 hg (by simp [Value.ownBlock])
     have HBn:=OW13.2.1
     clear ho hg
     refine hK.out _ _ ?_ (fun hH'=>?_)
     ·(try dsimp only)
      exact ⟨⟨za_ HBn D0 hz,za_ HBn D1 hz,za_ HBn D2 hz,za_ HBn D3 hz⟩,HBn⟩
     clear hK K
     clear hH
     have hH:=hH'
     clear hH'
     have HB13:Below wr.drew.heap.size wr.drew (w13):=HBn
     clear HBn
     refine wLy ?_
     refine wpAnyH_ready (rs:=[7]) (by kernel_rfl) (by simp) ?_
     refine AllReadyH.cons rfl (fun K hK=>?_) AllReadyH.nil
     rw [if_pos (by rfl)]
     refine zp_ (.tmp 27) (.tmp 29) 33 rfl 89 i0 (.agg #[.int .i64 0,.int .i64 0,.int .i64 0,.bool false]) 32 Tryz.underlying33 HI.out.1 HI.out.2.1 HI.out.2.2.1 HI.out.2.2.2 rfl v13 _ _ rfl OW13.1 _ _ _ _ rfl SO13 (by unfold maxLen; (try simp); (try omega)) (by (try simp); (try omega)) ?_
     intro v14 w14 ho hg
     have OW14:=OW13.app ho hg
     have HBn:=OW14.2.1
     clear ho hg
     refine hK.out _ _ ?_ (fun hH'=>?_)
     ·(try dsimp only)
      exact ⟨⟨za_ HBn D0 hz,za_ HBn D1 hz,za_ HBn D2 hz,za_ HBn D3 hz⟩,HBn⟩
     clear hK K
     clear hH
     have hH:=hH'
     clear hH'
     have HB14:Below wr.drew.heap.size wr.drew (w14):=HBn
     clear HBn
     refine wLy ?_
     refine wpAnyH_ready (rs:=[11]) (by kernel_rfl) (by simp) ?_
     refine AllReadyH.cons rfl (fun K hK=>?_) AllReadyH.nil
     rw [if_pos (by rfl)]
     refine zp_ (.tmp 30) (.tmp 33) 33 rfl 89 i0 (.agg #[.int .i64 0,.int .i64 0,.int .i64 0,.bool false]) 32 Tryz.underlying33 HI.out.1 HI.out.2.1 HI.out.2.2.1 HI.out.2.2.2 rfl v14 _ _ rfl OW14.1 _ _ _ _ rfl (SrcD.next HB14) (by unfold maxLen; (try simp); (try omega)) (by (try simp); (try omega)) ?_
     intro v15 w15 ho hg
     have OW15:=OW14.app ho hg
     have HBn:=OW15.2.1
     clear ho hg
     refine hK.out _ _ ?_ (fun hH'=>?_)
     ·(try dsimp only)
      exact ⟨⟨za_ HBn D0 hz,za_ HBn D1 hz,za_ HBn D2 hz,za_ HBn D3 hz⟩,HBn⟩
     clear hK K
     clear hH
     have hH:=hH'
     clear hH'
     have HB15:Below wr.drew.heap.size wr.drew (w15):=HBn
     clear HBn
     refine wLy ?_
     refine wTk 12 ?_
     refine wDn ?_
     have O9:Hid (Own wr.drew w15 89 v15 _ _):=OW15
     clear hH D0 D1 D2 D3
     go_wp2
     all_goals go_ret
     all_goals exact ⟨_,rfl,zA_ O9.out.1 (by rw [← HPT.out]; (try simp); (try omega)) (by rw [← HPT.out]; simp [zz_,flat]),(Gro.of_below HB0.out).trans O9.out.gro⟩
end Go.Proofs.YtiokjphefpicbaaGreatDoor
