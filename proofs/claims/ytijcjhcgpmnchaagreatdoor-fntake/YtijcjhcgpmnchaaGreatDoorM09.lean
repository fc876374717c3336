/- Nodes, part 9 of the law FnTake. -/
import Derived.Test.YtijcjhcgpmnchaaGreatDoorM07
import Derived.Deep.Upon
namespace Go.Proofs.YtijcjhcgpmnchaaGreatDoor
open Go.RowKit
set_option maxRecDepth 100000
set_option maxHeartbeats 16000000
set_option linter.unusedSimpArgs false
set_option linter.unusedVariables false
section
variable {W W' w w':World} {ao:Option Addr} {b cap g k n n' off:Nat} {l:List Sib} {t:TypeId} {v v':Value} {xs xs':List Value}
def HasD (l:List Sib) (p n:Int):Prop:=∃ o ∈ l,o.p=p∧o.n=n
theorem sU_ (cap:Nat) (ao:Option Addr) (l:List Sib) (a b c p n:Int) (w:World) (hm:(l.length:Int)<=1048576) (hr0:zk_ w ao l) :
  Calls Tryz.prog 164 #[.agg #[.slice ao l.length cap,.int .i64 a,.int .i64 b,.int .i64 c],.agg #[.int .i64 p,.int .i64 n]] w fun e w'=>∃ k:Int,e=.returned (.int .i64 k)∧Hid (HasD l p n->0<=k)∧Hid (¬ HasD l p n->k = -1)∧Below w.heap.size w w':=by
 have hr:Hid (zk_ w ao l):=hr0;clear hr0;go_enter Tryz.func164,Tryz.ntmps164;go_wp2;go_loopw [5] (fun s5 wr=>∃ k:Nat,k<=l.length∧s5=.int .i64 k∧Below w.heap.size w wr∧(∀ i (h:i < l.length),i < k->¬ (l[i].p=p∧l[i].n=n))∧w.heap.size+1 < wr.heap.size∧wr.cell? ⟨w.heap.size,0,none⟩=some (.slice ao l.length cap)∧wr.cell? ⟨w.heap.size+1,0,none⟩=some (.int .i64 p)∧wr.cell? ⟨w.heap.size+1,1,none⟩=some (.int .i64 n)) (fun s5 _=>l.length - (intOf s5).toNat)
 case atStart=>exact ⟨0,by omega,rfl,((zb_ _ _).trans ((zb_ _ _).mono (by simp))),fun i h h'=>by omega,by simp,by go_simp,by go_simp,by go_simp⟩
 case round=>
  obtain ⟨k,hk,rfl,hB0,hG0,hz,C0,D0,D1⟩:=hrel;have hB:=hm_ hB0;have hG:=hm_ hG0;clear hB0 hG0;by_cases hkl:k < l.length
  ·have hkl':(k:Int) < (l.length:Int):=by omega
   have kk:(0:Int)<=(k:Int):=by omega
   rcases hr.out with h' | ⟨q,off,rfl,h2⟩
   ·rw [h'] at hkl; simp at hkl
   obtain ⟨x0,x1,x2,x3⟩:=(h2 k hkl).next hB.out (zh_ (x:=⟨q,off+k * 4,none⟩) (h2 k hkl).1);clear h2 x2 x3;have es:=eqd l[k].p l[k].n p n;cases he:decide (l[k].p=p∧l[k].n=n)
   ·have hq:(l[k].p == p && l[k].n == n)=false:=oa_ (of_decide_eq_false he)
    have hG1:Hid (∀ i (h:i < l.length),i < k+1->¬ (l[i].p=p∧l[i].n=n)):=fun i h h3=>by
     by_cases e:i=k
     ·subst e; exact of_decide_eq_false he
     ·exact hG.out i h (by omega)
    clear he;go_wp2;refine wp_region_held_drew (S:=(fun w'=>w'.cell? ⟨w.heap.size,0,none⟩=some (.slice (some ⟨q,off,none⟩) l.length cap)∧w'.cell? ⟨w.heap.size+1,0,none⟩=some (.int .i64 p)∧w'.cell? ⟨w.heap.size+1,1,none⟩=some (.int .i64 n)∧w'.cell? ⟨q,off+k * 4,none⟩=some (.int .i64 l[k].p)∧w'.cell? ⟨q,off+k * 4+1,none⟩=some (.int .i64 l[k].n))) (by kernel_rfl) ?_ (fun hH=>?_)
    ·(try dsimp only);exact ⟨C0,D0,D1,x0,x1⟩
    refine wTk 0 ?_;refine wTk 1 ?_;refine wTk 2 ?_;refine wTk 3 ?_;refine wTk 4 ?_;refine wTk 5 ?_;refine wTk 6 ?_;refine wTk 7 ?_;refine wDn ?_;have hB5:Hid (Below w.heap.size w wr.drew):=ze_ hB (zd_ _);clear hH x0 x1 es hq;go_wp2
    go_roundw
    case rel=>first | exact ⟨k+1,by omega,by go_num,hB5.out,hG1.out,hz,C0,D0,D1⟩ | ((repeat apply Exists.intro); exact ⟨⟨k+1,by omega,by go_num,hB5.out,hG1.out,hz,C0,D0,D1⟩,rfl⟩)
    case measure=>simp [intOf]; omega
   ·have hq:(l[k].p == p && l[k].n == n)=true:=ob_ (of_decide_eq_true he);have hY:Hid (HasD l p n):=⟨l[k],List.getElem_mem hkl,of_decide_eq_true he⟩;clear he;go_wp2;refine wp_region_held_drew (S:=(fun w'=>w'.cell? ⟨w.heap.size,0,none⟩=some (.slice (some ⟨q,off,none⟩) l.length cap)∧w'.cell? ⟨w.heap.size+1,0,none⟩=some (.int .i64 p)∧w'.cell? ⟨w.heap.size+1,1,none⟩=some (.int .i64 n)∧w'.cell? ⟨q,off+k * 4,none⟩=some (.int .i64 l[k].p)∧w'.cell? ⟨q,off+k * 4+1,none⟩=some (.int .i64 l[k].n))) (by kernel_rfl) ?_ (fun hH=>?_)
    ·(try dsimp only);exact ⟨C0,D0,D1,x0,x1⟩
    refine wTk 0 ?_;refine wTk 1 ?_;refine wTk 2 ?_;refine wTk 3 ?_;refine wTk 4 ?_;refine wTk 5 ?_;refine wTk 6 ?_;refine wTk 7 ?_;refine wDn ?_;have hB5:Hid (Below w.heap.size w wr.drew):=ze_ hB (zd_ _);clear hH x0 x1 es hq C0 D0 D1;go_wp2;go_ret;exact ⟨k,rfl,fun _=>kk,fun h=>(h hY.out).elim,hB5.out⟩
  ·have hkl':¬ (k:Int) < (l.length:Int):=by omega
   have hY:Hid (¬ HasD l p n):=by
    rintro ⟨o,ho,e⟩;obtain ⟨i,hi,rfl⟩:=List.mem_iff_getElem.1 ho;exact hG.out i hi (by omega) e
   go_wp2;go_ret;exact ⟨-1,rfl,fun h=>(hY.out h).elim,fun _=>rfl,hB.out⟩
def zG_ (w:World) (ao:Option Addr) (m:Nat) (l:List Sib):Prop:=m=l.length∧zk_ w ao l
theorem zG_.next {m:Nat} (h:zG_ w ao m l) (hb:Below w.heap.size w w'):zG_ w' ao m l:=⟨h.1,h.2.next hb⟩
section
variable {P:Program}
theorem tJ_ (w:World) (t ty e:TypeId) (i:TypeInfo) (z:Value) (bytes:Nat) (ht:P.underlying t=some (.slice e)) (hi:P.info? e=some i) (hz:i.zero=some z)
  (hsize:i.size=4) (hby:i.bytes=bytes) (hzs:z.cells.size=4)
  (v:Value) (n:Nat) (xs:List Value) (hown:w.ownsRow 0 e 4 v n xs)
  (ao:Option Addr) (m c:Nat) (l:List Sib) (hsrc:zG_ w ao m l)
  (h63:n+m<=maxLen) (hbytes:(n+m) * bytes<=140737488355328) :
  ∃ v' w',(Builtin.append_ #[t,t] ty #[v,.slice ao m c]).run P w=.ok v' w'∧w'.ownsRow 0 e 4 v' (n+m) (xs++flat l)∧Gro w w' v v':=by
 obtain ⟨rfl,hrow⟩:=hsrc;by_cases hl:l=[]
 ·subst hl
  have hsr:Src P i.size t (.slice ao 0 c) 0 [] w:=by
   cases ao with
   | none=>exact Src.ofNil w ht c
   | some ad=>exact Src.ofSlice w ht ad 0 c [] (by simp) (fun j u h=>by simp at h) (fun u h=>by cases h)
  rcases hown.2 with ⟨rfl,rfl⟩ | ⟨g,cap,cur,rfl,_,_,hnc,_⟩
  ·exact ⟨_,_,run_append_nothing w t t ty e i ht hi none 0 0 (Nat.le_refl _) _ hsr,by simpa [flat] using hown,Gro.refl _ _⟩
  ·exact ⟨_,_,run_append_nothing w t t ty e i ht hi _ n cap hnc _ hsr,by simpa [flat] using hown,Gro.refl _ _⟩
 ·rcases hrow with h | ⟨b,off,rfl,h2⟩
  ·exact (hl h).elim
  ·exact xq_ (P:=P) w t ty e i z 4 bytes ht hi hz hsize hby hzs (by decide) v n xs hown ⟨b,off,none⟩ l.length c (flat l) (x7_ l) (fun j u hu=>by rw [uD_]; exact vV_ (l:=l) (off:=off) rfl h2 j u hu) (wq_ l) h63 hbytes
theorem zr_ {w:World} {o:Oper} {a:Act} {K:Act->World->Prop} {Q:Exit->Act->World->Prop} (s x:Operand) (t:TypeId)
  (ho:o.op=.call { callee:=.builtin .append,args:=#[s,x],argTypes:=#[t,t] })
  (e:TypeId) (i:TypeInfo) (z:Value) (bytes:Nat) (ht:P.underlying t=some (.slice e)) (hi:P.info? e=some i) (hz:i.zero=some z)
  (hsize:i.size=4) (hby:i.bytes=bytes) (hzs:z.cells.size=4)
  (v:Value) (n:Nat) (xs:List Value) (hs:a.eval s=v) (hown:w.ownsRow 0 e 4 v n xs)
  (ao:Option Addr) (m c:Nat) (l:List Sib) (hx:a.eval x=.slice ao m c) (hsrc:zG_ w ao m l)
  (h63:n+m<=maxLen) (hbytes:(n+m) * bytes<=140737488355328)
  (h:∀ v' w',w'.ownsRow 0 e 4 v' (n+m) (xs++flat l)->Gro w w' v v'->K (a.put o.dst v') w'):o.wp P a w K Q:=by
 obtain ⟨v',w',hr,h2,h3⟩:=tJ_ (P:=P) w t o.type e i z bytes ht hi hz hsize hby hzs v n xs hown ao m c l hsrc h63 hbytes;unfold Oper.wp execOp;simp only [ho,resolve,invoke,builtin,Sem.run_bind,Sem.run_pure,Result.andThen_ok,List.map_toArray,List.map_cons,List.map_nil,hs,hx,hr];exact h v' w' h2 h3
theorem yg_ {w:World} {ops:Array Oper} {rest:List Oper} {o:Oper} {a:Act} {Q:Exit->Act->World->Prop} (hgd:o.guard=none) (s x:Operand) (t:TypeId)
  (ho:o.op=.call { callee:=.builtin .append,args:=#[s,x],argTypes:=#[t,t] })
  (e:TypeId) (i:TypeInfo) (z:Value) (bytes:Nat) (ht:P.underlying t=some (.slice e)) (hi:P.info? e=some i) (hz:i.zero=some z)
  (hsize:i.size=4) (hby:i.bytes=bytes) (hzs:z.cells.size=4)
  (v:Value) (n:Nat) (xs:List Value) (hs:a.eval s=v) (hown:w.ownsRow 0 e 4 v n xs)
  (ao:Option Addr) (m c:Nat) (l:List Sib) (hx:a.eval x=.slice ao m c) (hsrc:zG_ w ao m l)
  (h63:n+m<=maxLen) (hbytes:(n+m) * bytes<=140737488355328)
  (h:∀ v' w',w'.ownsRow 0 e 4 v' (n+m) (xs++flat l)->Gro w w' v v'->wpList P ops Q rest (a.put o.dst v') w'):wpList P ops Q (o :: rest) a w:=
 wpList_plain hgd fun _ hK=>zr_ s x t ho e i z bytes ht hi hz hsize hby hzs v n xs hs hown ao m c l hx hsrc h63 hbytes (fun v' w' h2 h3=>hK _ _ (h v' w' h2 h3))
end
def Own (wr W:World) (e:TypeId) (v:Value) (n:Nat) (xs:List Value):Prop:=W.ownsRow 0 e 4 v n xs∧Below wr.heap.size wr W∧∀ k,v.ownBlock=some k->wr.heap.size<=k
theorem Own.step {wr:World} {e:TypeId} (h:Own wr W e v n xs) (hb:Below W.heap.size W W'):Own wr W' e v n xs:=⟨zP_ h.1 hb,h.2.1.trans (hb.mono h.2.1.size),h.2.2⟩
theorem Own.app {wr:World} {e:TypeId} (h:Own wr W e v n xs) (ho:W'.ownsRow 0 e 4 v' n' xs') (hg:Gro W W' v v'):Own wr W' e v' n' xs':=
 ⟨ho,h.2.1.trans (hg.below h.2.1.size h.2.2),fun k hk=>by
  rcases hg.fresh k hk with h' | h'
  ·exact h.2.2 k h'
  ·exact Nat.le_trans h.2.1.size h'⟩
theorem Own.lit {wr:World} {e:TypeId} (hb:Below wr.heap.size wr W):Own wr (W.alloc (.cells #[] e)) e (.slice (some ⟨W.heap.size,0,none⟩) 0 0) 0 []:=
 ⟨World.ownsRow_lit (base:=0) (e:=e) (size:=4) W #[] 0 (Nat.zero_le _) (by unfold maxLen; omega) (by simp),hb.trans ((zb_ _ _).mono hb.size),fun k hk=>by
  simp [Value.ownBlock] at hk
  have:=hb.size
  omega⟩
theorem Own.gro {wr:World} {e:TypeId} (h:Own wr W e v n xs):Gro wr W (.slice none 0 0) v:=⟨z4_ h.2.1,fun k hk=>.inr (h.2.2 k hk)⟩
theorem Own.shape {wr:World} {e:TypeId} (h:Own wr W e v n xs):∃ o c,v=.slice o n c∧n<=c:=by
 rcases h.1.2 with ⟨rfl,rfl⟩ | ⟨g,cap,cur,rfl,_,_,hnc,_⟩
 ·exact ⟨_,_,rfl,Nat.le_refl _⟩
 ·exact ⟨_,_,rfl,hnc⟩
theorem sk_ (hk:k<=l.length) (h:zk_ W (some ⟨b,off,none⟩) l):zG_ W (some ⟨b,off,none⟩) k (l.take k):=by
 refine ⟨by simp; omega,?_⟩;rcases h with h | ⟨b',off',e,h2⟩
 ·left; rw [h]; simp
 ·cases e
  exact .inr ⟨b,off,rfl,fun i hi=>by
   have:=h2 i (by simp at hi; omega)
   simpa using this⟩
theorem pf_ (hk:k<=l.length) (h:zk_ W (some ⟨b,off,none⟩) l):zG_ W (some ⟨b,off+k * 4,none⟩) (l.length - k) (l.drop k):=by
 refine ⟨by simp,?_⟩;rcases h with h | ⟨b',off',e,h2⟩
 ·left; rw [h]; simp
 ·cases e;refine .inr ⟨b,off+k * 4,rfl,fun i hi=>?_⟩
  have:=h2 (k+i) (by simp at hi; omega)
  have e1:off+(k+i) * 4=off+k * 4+i * 4:=by omega
  rw [e1] at this
  simpa using this
theorem uI_ (hk:k<=l.length) (hc:l.length<=cap) (h:zk_ W (some ⟨b,off,none⟩) l):zG_ W (if cap=k then some ⟨b,off,none⟩ else some ⟨b,off+k * 4,none⟩) (l.length - k) (l.drop k):=by
 by_cases e:cap=k
 ·rw [if_pos e]
  have:l.length=k:=by omega
  exact ⟨by simp,.inl (by simp; omega)⟩
 ·rw [if_neg e];exact pf_ hk h
theorem uH_ (hc:l.length<=cap) (h:zk_ W (some ⟨b,off,none⟩) l):zG_ W (if cap=l.length then some ⟨b,off,none⟩ else some ⟨b,off+l.length * 4,none⟩) 0 (l.drop l.length):=by
 have:=uI_ (Nat.le_refl _) hc h
 rwa [Nat.sub_self] at this
theorem xE_ {m:Nat} (h:zG_ W (some ⟨g,0,none⟩) m l) (hg:Gro W W' v v') (hne:v.ownBlock≠some g):zG_ W' (some ⟨g,0,none⟩) m l:=⟨h.1,hg.row h.2 (fun q hq=>by cases hq; exact hne)⟩
theorem wK_:zG_ W ao 0 []:=⟨rfl,.inl rfl⟩
theorem z7_ {x:Sib}:zG_ (W.alloc (.cells #[.int .i64 x.p,.int .i64 x.n,.int .i64 x.v,.bool x.d] t)) (some ⟨W.heap.size,0,none⟩) 1 [x]:=⟨rfl,un_⟩
end
theorem d4_ {w W:World} {g:Nat} {x y z u:Value} (h:Below w.heap.size w W) (a:w.cell? ⟨g,0,none⟩=some x) (b:w.cell? ⟨g,1,none⟩=some y) (c:w.cell? ⟨g,2,none⟩=some z) (d:w.cell? ⟨g,3,none⟩=some u) (hz:g < w.heap.size):(W.cell? ⟨g,0,none⟩=some x∧W.cell? ⟨g,1,none⟩=some y∧W.cell? ⟨g,2,none⟩=some z∧W.cell? ⟨g,3,none⟩=some u)∧Below w.heap.size w W:=⟨⟨za_ h a hz,za_ h b hz,za_ h c hz,za_ h d hz⟩,h⟩
theorem op_ (cap:Nat) (ao:Option Addr) (l:List Sib) (x:Sib) (w:World) (hm:(l.length:Int)<=1048576) (hcap:l.length<=cap) (hr0:zk_ w ao l) :
  Calls Tryz.prog 152 #[.slice ao l.length cap,.agg #[.int .i64 x.p,.int .i64 x.n,.int .i64 x.v,.bool x.d]] w fun e w'=>∃ v',e=.returned v'∧w'.ownsRow 0 89 4 v' (pt x l).length (flat (pt x l))∧Gro w w' (.slice none 0 0) v':=by
 have hr:Hid (zk_ w ao l):=hr0;clear hr0;obtain ⟨i0,hi,hz0,hz1,hz2⟩:=info_parts yG_;have HI:Hid (Tryz.prog.info? 89=some i0∧i0.zero=some (.agg #[.int .i64 0,.int .i64 0,.int .i64 0,.bool false])∧i0.size=4∧i0.bytes=32):=⟨hi,hz0,hz1,hz2⟩;clear hi hz0 hz1 hz2;go_enter Tryz.func152,Tryz.ntmps152;go_wp2;go_loopw [5] (fun s5 wr=>∃ k:Nat,k<=l.length∧s5=.int .i64 k∧Below w.heap.size w wr∧(∀ i (h:i < l.length),i < k->z5_ l[i].p l[i].n x.p x.n < 0)∧w.heap.size < wr.heap.size∧wr.cell? ⟨w.heap.size,0,none⟩=some (.int .i64 x.p)∧wr.cell? ⟨w.heap.size,1,none⟩=some (.int .i64 x.n)∧wr.cell? ⟨w.heap.size,2,none⟩=some (.int .i64 x.v)∧wr.cell? ⟨w.heap.size,3,none⟩=some (.bool x.d)) (fun s5 _=>l.length - (intOf s5).toNat)
 case atStart=>exact ⟨0,by omega,rfl,zb_ _ _,fun i h h'=>by omega,by simp,by go_simp,by go_simp,by go_simp,by go_simp⟩
 case round=>
  obtain ⟨k,hk,rfl,hB0,hG0,hz,D0,D1,D2,D3⟩:=hrel;have HB0:=hm_ hB0;have hG:=hm_ hG0;have hR:Hid (zk_ wr ao l):=hr.out.next hB0;have kk:(0:Int)<=(k:Int):=by omega
  clear hB0 hG0;by_cases hkl:k < l.length
  ·have hkl':(k:Int) < (l.length:Int):=by omega
   rcases hR.out with h' | ⟨q,off,rfl,h2⟩
   ·rw [h'] at hkl; simp at hkl
   obtain ⟨x0,x1,x2,x3⟩:=h2 k hkl;clear h2 x2 x3;cases hd:decide (z5_ l[k].p l[k].n x.p x.n < 0)
   ·have HPT:Hid (l.take k++x :: l.drop k=pt x l):=oq_ x l k hk hG.out (fun _=>of_decide_eq_false hd);go_wp2;refine wp_region_held_drew (S:=(fun w'=>(w'.cell? ⟨w.heap.size,0,none⟩=some (.int .i64 x.p)∧w'.cell? ⟨w.heap.size,1,none⟩=some (.int .i64 x.n)∧w'.cell? ⟨w.heap.size,2,none⟩=some (.int .i64 x.v)∧w'.cell? ⟨w.heap.size,3,none⟩=some (.bool x.d))∧w'.cell? ⟨q,off+k * 4,none⟩=some (.int .i64 l[k].p)∧w'.cell? ⟨q,off+k * 4+1,none⟩=some (.int .i64 l[k].n)∧Below wr.heap.size wr w')) (by kernel_rfl) ?_ (fun hH=>?_)
    ·(try dsimp only);exact ⟨⟨D0,D1,D2,D3⟩,x0,x1,zd_ _⟩
    refine wTk 0 ?_;refine wTk 1 ?_;refine wTk 2 ?_;refine wTk 3 ?_;refine wTk 4 ?_;refine wTk 5 ?_;refine wTk 6 ?_;refine wTk 7 ?_;refine wTk 8 ?_;refine wTk 9 ?_;refine wTk 10 ?_;refine wTk 11 ?_;refine wRd 12 (fun K hK=>?_);go_simp
    (go_at_call 129; refine (xu_ l[k].p l[k].n x.p x.n _).mono ?_; rintro e w3 ⟨rfl,hb⟩)
    (try simp only []);refine hK.out _ _ ?_ (fun hH'=>?_)
    ·(try dsimp only);exact ⟨⟨za_ hb hH.1.1 (zh_ (x:=⟨w.heap.size,0,none⟩) hH.1.1),za_ hb hH.1.2.1 (zh_ (x:=⟨w.heap.size,1,none⟩) hH.1.2.1),za_ hb hH.1.2.2.1 (zh_ (x:=⟨w.heap.size,2,none⟩) hH.1.2.2.1),za_ hb hH.1.2.2.2 (zh_ (x:=⟨w.heap.size,3,none⟩) hH.1.2.2.2)⟩,za_ hb hH.2.1 (zh_ (x:=⟨q,off+k * 4,none⟩) hH.2.1),za_ hb hH.2.2.1 (zh_ (x:=⟨q,off+k * 4+1,none⟩) hH.2.2.1),(ze_ hH.2.2.2 hb).out⟩
    clear hK K hH;have hH:=hH';clear hH';clear hb;refine wLy ?_;refine wTk 13 ?_;refine wTk 14 ?_;refine wDn ?_;obtain ⟨⟨E0,E1,E2,E3⟩,_,_,hB3⟩:=hH;replace HB0:=ze_ HB0 hB3;have hz3:=Nat.lt_of_lt_of_le hz hB3.size;replace hR:Hid (zk_ w3 (some ⟨q,off,none⟩) l):=hR.out.next hB3;clear D0 D1 D2 D3 x0 x1 hd hB3;go_wp2;have hck:k<=cap:=by omega
    have hck':(k:Int)<=(cap:Int):=by omega
    have hkl2:(k:Int)<=(l.length:Int):=by omega
    have hz:=hz3;have D0:=E0;have D1:=E1;have D2:=E2;have D3:=E3;clear E0 E1 E2 E3;have SrcT:zG_ w3 _ _ (l.take k):=sk_ hk hR.out;have SrcD:zG_ w3 _ _ (l.drop k):=uI_ hk hcap hR.out;refine wp_region_held_drew (S:=(fun w'=>(w'.cell? ⟨w.heap.size,0,none⟩=some (.int .i64 x.p)∧w'.cell? ⟨w.heap.size,1,none⟩=some (.int .i64 x.n)∧w'.cell? ⟨w.heap.size,2,none⟩=some (.int .i64 x.v)∧w'.cell? ⟨w.heap.size,3,none⟩=some (.bool x.d))∧Below w3.heap.size w3 w')) (by kernel_rfl) ?_ (fun hH=>?_)
    ·(try dsimp only);exact ⟨⟨D0,D1,D2,D3⟩,zd_ _⟩
    refine wTk 1 ?_;refine wTk 2 ?_;refine wTk 3 ?_;refine wTk 8 ?_;refine wTk 9 ?_;refine wTk 10 ?_;refine wTk 5 ?_;have HBs:Below w3.heap.size w3 w3.drew:=zd_ _;refine wpAnyH_ready (rs:=[0,6]) (by kernel_rfl) (by simp) ?_;refine .cons rfl (fun K hK=>?_) (.cons rfl (fun K hK=>?_) .nil)
    ·refine wLy ?_;go_simp;(try simp only []);have OW11:Own w3 ((w3.drew).alloc (.cells #[] 89)) 89 (.slice (some ⟨w3.heap.size,0,none⟩) 0 0) 0 []:=by simpa using Own.lit (e:=89) HBs
     have HBn:Below w3.heap.size w3 ((w3.drew).alloc (.cells #[] 89)):=HBs.trans ((zb_ _ _).mono HBs.size);refine hK.out _ _ ?_ (fun hH'=>?_)
     ·(try dsimp only);exact d4_ HBn D0 D1 D2 D3 hz
     clear hK K hH;have hH:=hH';clear hH';have HB11:Below w3.heap.size w3 ((w3.drew).alloc (.cells #[] 89)):=HBn;clear HBn;refine wLy ?_;refine wpAnyH_ready (rs:=[4,6]) (by kernel_rfl) (by simp) ?_;refine .cons rfl (fun K hK=>?_) (.cons rfl (fun K hK=>?_) .nil)
     focus
      rw [if_pos (by rfl)];refine zr_ (.tmp 23) (.tmp 26) 33 rfl 89 i0 (.agg #[.int .i64 0,.int .i64 0,.int .i64 0,.bool false]) 32 Tryz.underlying33 HI.out.1 HI.out.2.1 HI.out.2.2.1 HI.out.2.2.2 rfl (.slice (some ⟨w3.heap.size,0,none⟩) 0 0) _ _ rfl OW11.1 _ _ _ _ rfl (SrcT.next HB11) (by unfold maxLen; (try simp); (try omega)) (by (try simp); (try omega)) ?_;intro v12 w12 ho hg;have OW12:=OW11.app ho hg;have HBn:=OW12.2.1;clear ho hg;refine hK.out _ _ ?_ (fun hH'=>?_)
      ·(try dsimp only);exact d4_ HBn D0 D1 D2 D3 hz
      clear hK K hH;have hH:=hH';clear hH';have HB12:Below w3.heap.size w3 (w12):=HBn;clear HBn;refine wLy ?_;refine wRd 6 (fun K hK=>?_);go_simp;(try simp only []);have OW13:=OW12.step (zb_ _ ((.cells #[.int .i64 x.p,.int .i64 x.n,.int .i64 x.v,.bool x.d] 89)));have SO13:zG_ ((w12).alloc (.cells #[.int .i64 x.p,.int .i64 x.n,.int .i64 x.v,.bool x.d] 89)) (some ⟨w12.heap.size,0,none⟩) 1 [x]:=by simpa using (z7_ (W:=w12) (x:=x) (t:=89))
      have HBn:Below w3.heap.size w3 ((w12).alloc (.cells #[.int .i64 x.p,.int .i64 x.n,.int .i64 x.v,.bool x.d] 89)):=HB12.trans ((zb_ _ _).mono HB12.size);refine hK.out _ _ ?_ (fun hH'=>?_)
      ·(try dsimp only);exact d4_ HBn D0 D1 D2 D3 hz
      clear hK K hH;have hH:=hH';clear hH';have HB13:Below w3.heap.size w3 ((w12).alloc (.cells #[.int .i64 x.p,.int .i64 x.n,.int .i64 x.v,.bool x.d] 89)):=HBn;clear HBn;refine wLy ?_;refine wpAnyH_ready (rs:=[7]) (by kernel_rfl) (by simp) ?_;refine .cons rfl (fun K hK=>?_) .nil;rw [if_pos (by rfl)];refine zr_ (.tmp 27) (.tmp 29) 33 rfl 89 i0 (.agg #[.int .i64 0,.int .i64 0,.int .i64 0,.bool false]) 32 Tryz.underlying33 HI.out.1 HI.out.2.1 HI.out.2.2.1 HI.out.2.2.2 rfl v12 _ _ rfl OW13.1 _ _ _ _ rfl SO13 (by unfold maxLen; (try simp); (try omega)) (by (try simp); (try omega)) ?_
     rotate_left
     focus
      refine wLy ?_;go_simp;(try simp only []);have OW12:=OW11.step (zb_ _ ((.cells #[.int .i64 x.p,.int .i64 x.n,.int .i64 x.v,.bool x.d] 89)));have SO12:zG_ (((w3.drew).alloc (.cells #[] 89)).alloc (.cells #[.int .i64 x.p,.int .i64 x.n,.int .i64 x.v,.bool x.d] 89)) (some ⟨w3.heap.size+1,0,none⟩) 1 [x]:=by simpa using (z7_ (W:=(w3.drew).alloc (.cells #[] 89)) (x:=x) (t:=89))
      have HBn:Below w3.heap.size w3 (((w3.drew).alloc (.cells #[] 89)).alloc (.cells #[.int .i64 x.p,.int .i64 x.n,.int .i64 x.v,.bool x.d] 89)):=HB11.trans ((zb_ _ _).mono HB11.size);refine hK.out _ _ ?_ (fun hH'=>?_)
      ·(try dsimp only);exact d4_ HBn D0 D1 D2 D3 hz
      clear hK K hH;have hH:=hH';clear hH';have HB12:Below w3.heap.size w3 (((w3.drew).alloc (.cells #[] 89)).alloc (.cells #[.int .i64 x.p,.int .i64 x.n,.int .i64 x.v,.bool x.d] 89)):=HBn;clear HBn;refine wLy ?_;refine wpAnyH_ready (rs:=[4]) (by kernel_rfl) (by simp) ?_;refine .cons rfl (fun K hK=>?_) .nil;rw [if_pos (by rfl)];refine zr_ (.tmp 23) (.tmp 26) 33 rfl 89 i0 (.agg #[.int .i64 0,.int .i64 0,.int .i64 0,.bool false]) 32 Tryz.underlying33 HI.out.1 HI.out.2.1 HI.out.2.2.1 HI.out.2.2.2 rfl (.slice (some ⟨w3.heap.size,0,none⟩) 0 0) _ _ rfl OW12.1 _ _ _ _ rfl (SrcT.next HB12) (by unfold maxLen; (try simp); (try omega)) (by (try simp); (try omega)) ?_;intro v13 w13 ho hg;have OW13:=OW12.app ho hg;have SO13:=xE_ SO12 hg (by simp [Value.ownBlock]);have HBn:=OW13.2.1;clear ho hg;refine hK.out _ _ ?_ (fun hH'=>?_)
      ·(try dsimp only);exact d4_ HBn D0 D1 D2 D3 hz
      clear hK K hH;have hH:=hH';clear hH';have HB13:Below w3.heap.size w3 (w13):=HBn;clear HBn;refine wLy ?_;refine wpAnyH_ready (rs:=[7]) (by kernel_rfl) (by simp) ?_;refine .cons rfl (fun K hK=>?_) .nil;rw [if_pos (by rfl)];refine zr_ (.tmp 27) (.tmp 29) 33 rfl 89 i0 (.agg #[.int .i64 0,.int .i64 0,.int .i64 0,.bool false]) 32 Tryz.underlying33 HI.out.1 HI.out.2.1 HI.out.2.2.1 HI.out.2.2.2 rfl v13 _ _ rfl OW13.1 _ _ _ _ rfl SO13 (by unfold maxLen; (try simp); (try omega)) (by (try simp); (try omega)) ?_
     rotate_left
     all_goals
      intro v14 w14 ho hg;have OW14:=OW13.app ho hg;have HBn:=OW14.2.1;clear ho hg;refine hK.out _ _ ?_ (fun hH'=>?_)
      ·(try dsimp only);exact d4_ HBn D0 D1 D2 D3 hz
      clear hK K hH;have hH:=hH';clear hH';have HB14:Below w3.heap.size w3 (w14):=HBn;clear HBn;refine wLy ?_;refine wpAnyH_ready (rs:=[11]) (by kernel_rfl) (by simp) ?_;refine .cons rfl (fun K hK=>?_) .nil;rw [if_pos (by rfl)];refine zr_ (.tmp 30) (.tmp 33) 33 rfl 89 i0 (.agg #[.int .i64 0,.int .i64 0,.int .i64 0,.bool false]) 32 Tryz.underlying33 HI.out.1 HI.out.2.1 HI.out.2.2.1 HI.out.2.2.2 rfl v14 _ _ rfl OW14.1 _ _ _ _ rfl (SrcD.next HB14) (by unfold maxLen; (try simp); (try omega)) (by (try simp); (try omega)) ?_;intro v15 w15 ho hg;have OW15:=OW14.app ho hg;have HBn:=OW15.2.1;clear ho hg;refine hK.out _ _ ?_ (fun hH'=>?_)
      ·(try dsimp only);exact d4_ HBn D0 D1 D2 D3 hz
      clear hK K hH;have hH:=hH';clear hH';have HB15:Below w3.heap.size w3 (w15):=HBn;clear HBn;refine wLy ?_;refine wTk 12 ?_;refine wDn ?_;have O9:Hid (Own w3 w15 89 v15 _ _):=OW15;clear hH D0 D1 D2 D3;go_wp2
      all_goals go_ret
      all_goals exact ⟨_,rfl,zA_ O9.out.1 (by rw [<- HPT.out]; (try simp); (try omega)) (by rw [<- HPT.out]; simp [zz_,flat]),(Gro.of_below HB0.out).trans O9.out.gro⟩
    ·refine wLy ?_;go_simp;(try simp only []);have SO11:zG_ ((w3.drew).alloc (.cells #[.int .i64 x.p,.int .i64 x.n,.int .i64 x.v,.bool x.d] 89)) (some ⟨w3.heap.size,0,none⟩) 1 [x]:=by simpa using (z7_ (W:=w3.drew) (x:=x) (t:=89))
     have HBn:Below w3.heap.size w3 ((w3.drew).alloc (.cells #[.int .i64 x.p,.int .i64 x.n,.int .i64 x.v,.bool x.d] 89)):=HBs.trans ((zb_ _ _).mono HBs.size);refine hK.out _ _ ?_ (fun hH'=>?_)
     ·(try dsimp only);exact d4_ HBn D0 D1 D2 D3 hz
     clear hK K hH;have hH:=hH';clear hH';have HB11:Below w3.heap.size w3 ((w3.drew).alloc (.cells #[.int .i64 x.p,.int .i64 x.n,.int .i64 x.v,.bool x.d] 89)):=HBn;clear HBn;refine wLy ?_;refine wRd 0 (fun K hK=>?_);go_simp;(try simp only []);have OW12:Own w3 (((w3.drew).alloc (.cells #[.int .i64 x.p,.int .i64 x.n,.int .i64 x.v,.bool x.d] 89)).alloc (.cells #[] 89)) 89 (.slice (some ⟨w3.heap.size+1,0,none⟩) 0 0) 0 []:=by simpa using Own.lit (e:=89) HB11
     have SO12:=SO11.next (zb_ _ ((.cells #[] 89)));have HBn:Below w3.heap.size w3 (((w3.drew).alloc (.cells #[.int .i64 x.p,.int .i64 x.n,.int .i64 x.v,.bool x.d] 89)).alloc (.cells #[] 89)):=HB11.trans ((zb_ _ _).mono HB11.size);refine hK.out _ _ ?_ (fun hH'=>?_)
     ·(try dsimp only);exact d4_ HBn D0 D1 D2 D3 hz
     clear hK K hH;have hH:=hH';clear hH';have HB12:Below w3.heap.size w3 (((w3.drew).alloc (.cells #[.int .i64 x.p,.int .i64 x.n,.int .i64 x.v,.bool x.d] 89)).alloc (.cells #[] 89)):=HBn;clear HBn;refine wLy ?_;refine wpAnyH_ready (rs:=[4]) (by kernel_rfl) (by simp) ?_;refine .cons rfl (fun K hK=>?_) .nil;rw [if_pos (by rfl)];refine zr_ (.tmp 23) (.tmp 26) 33 rfl 89 i0 (.agg #[.int .i64 0,.int .i64 0,.int .i64 0,.bool false]) 32 Tryz.underlying33 HI.out.1 HI.out.2.1 HI.out.2.2.1 HI.out.2.2.2 rfl (.slice (some ⟨w3.heap.size+1,0,none⟩) 0 0) _ _ rfl OW12.1 _ _ _ _ rfl (SrcT.next HB12) (by unfold maxLen; (try simp); (try omega)) (by (try simp); (try omega)) ?_;intro v13 w13 ho hg;have OW13:=OW12.app ho hg;have SO13:=xE_ SO12 hg (by simp [Value.ownBlock]);have HBn:=OW13.2.1;clear ho hg;refine hK.out _ _ ?_ (fun hH'=>?_)
     ·(try dsimp only);exact d4_ HBn D0 D1 D2 D3 hz
     clear hK K hH;have hH:=hH';clear hH';have HB13:Below w3.heap.size w3 (w13):=HBn;clear HBn;refine wLy ?_;refine wpAnyH_ready (rs:=[7]) (by kernel_rfl) (by simp) ?_;refine .cons rfl (fun K hK=>?_) .nil;rw [if_pos (by rfl)];refine zr_ (.tmp 27) (.tmp 29) 33 rfl 89 i0 (.agg #[.int .i64 0,.int .i64 0,.int .i64 0,.bool false]) 32 Tryz.underlying33 HI.out.1 HI.out.2.1 HI.out.2.2.1 HI.out.2.2.2 rfl v13 _ _ rfl OW13.1 _ _ _ _ rfl SO13 (by unfold maxLen; (try simp); (try omega)) (by (try simp); (try omega)) ?_;intro v14 w14 ho hg;have OW14:=OW13.app ho hg;have HBn:=OW14.2.1;clear ho hg;refine hK.out _ _ ?_ (fun hH'=>?_)
     ·(try dsimp only);exact d4_ HBn D0 D1 D2 D3 hz
     clear hK K hH;have hH:=hH';clear hH';have HB14:Below w3.heap.size w3 (w14):=HBn;clear HBn;refine wLy ?_;refine wpAnyH_ready (rs:=[11]) (by kernel_rfl) (by simp) ?_;refine .cons rfl (fun K hK=>?_) .nil;rw [if_pos (by rfl)];refine zr_ (.tmp 30) (.tmp 33) 33 rfl 89 i0 (.agg #[.int .i64 0,.int .i64 0,.int .i64 0,.bool false]) 32 Tryz.underlying33 HI.out.1 HI.out.2.1 HI.out.2.2.1 HI.out.2.2.2 rfl v14 _ _ rfl OW14.1 _ _ _ _ rfl (SrcD.next HB14) (by unfold maxLen; (try simp); (try omega)) (by (try simp); (try omega)) ?_;intro v15 w15 ho hg;have OW15:=OW14.app ho hg;have HBn:=OW15.2.1;clear ho hg;refine hK.out _ _ ?_ (fun hH'=>?_)
     ·(try dsimp only);exact d4_ HBn D0 D1 D2 D3 hz
     clear hK K hH;have hH:=hH';clear hH';have HB15:Below w3.heap.size w3 (w15):=HBn;clear HBn;refine wLy ?_;refine wTk 12 ?_;refine wDn ?_;have O9:Hid (Own w3 w15 89 v15 _ _):=OW15;clear hH D0 D1 D2 D3;go_wp2
     all_goals go_ret
     all_goals exact ⟨_,rfl,zA_ O9.out.1 (by rw [<- HPT.out]; (try simp); (try omega)) (by rw [<- HPT.out]; simp [zz_,flat]),(Gro.of_below HB0.out).trans O9.out.gro⟩
   ·have hG1:Hid (∀ i (h:i < l.length),i < k+1->z5_ l[i].p l[i].n x.p x.n < 0):=fun i h h3=>by
     by_cases e:i=k
     ·subst e; exact of_decide_eq_true hd
     ·exact hG.out i h (by omega)
    go_wp2;refine wp_region_held_drew (S:=(fun w'=>(w'.cell? ⟨w.heap.size,0,none⟩=some (.int .i64 x.p)∧w'.cell? ⟨w.heap.size,1,none⟩=some (.int .i64 x.n)∧w'.cell? ⟨w.heap.size,2,none⟩=some (.int .i64 x.v)∧w'.cell? ⟨w.heap.size,3,none⟩=some (.bool x.d))∧w'.cell? ⟨q,off+k * 4,none⟩=some (.int .i64 l[k].p)∧w'.cell? ⟨q,off+k * 4+1,none⟩=some (.int .i64 l[k].n)∧Below wr.heap.size wr w')) (by kernel_rfl) ?_ (fun hH=>?_)
    ·(try dsimp only);exact ⟨⟨D0,D1,D2,D3⟩,x0,x1,zd_ _⟩
    refine wTk 0 ?_;refine wTk 1 ?_;refine wTk 2 ?_;refine wTk 3 ?_;refine wTk 4 ?_;refine wTk 5 ?_;refine wTk 6 ?_;refine wTk 7 ?_;refine wTk 8 ?_;refine wTk 9 ?_;refine wTk 10 ?_;refine wTk 11 ?_;refine wRd 12 (fun K hK=>?_);go_simp
    (go_at_call 129; refine (xu_ l[k].p l[k].n x.p x.n _).mono ?_; rintro e w3 ⟨rfl,hb⟩)
    (try simp only []);refine hK.out _ _ ?_ (fun hH'=>?_)
    ·(try dsimp only);exact ⟨⟨za_ hb hH.1.1 (zh_ (x:=⟨w.heap.size,0,none⟩) hH.1.1),za_ hb hH.1.2.1 (zh_ (x:=⟨w.heap.size,1,none⟩) hH.1.2.1),za_ hb hH.1.2.2.1 (zh_ (x:=⟨w.heap.size,2,none⟩) hH.1.2.2.1),za_ hb hH.1.2.2.2 (zh_ (x:=⟨w.heap.size,3,none⟩) hH.1.2.2.2)⟩,za_ hb hH.2.1 (zh_ (x:=⟨q,off+k * 4,none⟩) hH.2.1),za_ hb hH.2.2.1 (zh_ (x:=⟨q,off+k * 4+1,none⟩) hH.2.2.1),(ze_ hH.2.2.2 hb).out⟩
    clear hK K hH;have hH:=hH';clear hH';clear hb;refine wLy ?_;refine wTk 13 ?_;refine wTk 14 ?_;refine wDn ?_;obtain ⟨⟨E0,E1,E2,E3⟩,_,_,hB3⟩:=hH;replace HB0:=ze_ HB0 hB3;have hz3:=Nat.lt_of_lt_of_le hz hB3.size;clear D0 D1 D2 D3 x0 x1 hd hB3;go_wp2
    go_roundw
    case rel=>first | exact ⟨k+1,by omega,by go_num,HB0.out,hG1.out,hz3,E0,E1,E2,E3⟩ | ((repeat apply Exists.intro); exact ⟨⟨k+1,by omega,by go_num,HB0.out,hG1.out,hz3,E0,E1,E2,E3⟩,rfl⟩)
    case measure=>simp [intOf]; omega
  ·obtain rfl:k=l.length:=by omega
   clear hkl;have HPT:Hid (l.take l.length++x :: l.drop l.length=pt x l):=oq_ x l l.length hk hG.out (fun h=>by omega);have hkl':¬ (l.length:Int) < (l.length:Int):=by omega
   go_wp2;refine wp_region_held_drew (S:=(fun w'=>(w'.cell? ⟨w.heap.size,0,none⟩=some (.int .i64 x.p)∧w'.cell? ⟨w.heap.size,1,none⟩=some (.int .i64 x.n)∧w'.cell? ⟨w.heap.size,2,none⟩=some (.int .i64 x.v)∧w'.cell? ⟨w.heap.size,3,none⟩=some (.bool x.d))∧Below wr.heap.size wr w')) (by kernel_rfl) ?_ (fun hH=>?_)
   ·(try dsimp only);exact ⟨⟨D0,D1,D2,D3⟩,zd_ _⟩
   refine wTk 0 ?_;refine wTk 1 ?_;refine wTk 2 ?_;refine wTk 3 ?_;refine wTk 4 ?_;refine wTn 5 ?_;refine wTn 6 ?_;refine wTn 7 ?_;refine wTn 8 ?_;refine wTn 9 ?_;refine wTn 10 ?_;refine wTn 11 ?_;refine wTn 12 ?_;refine wTn 13 ?_;refine wTk 14 ?_;refine wDn ?_;obtain ⟨⟨E0,E1,E2,E3⟩,hB3⟩:=hH;replace HB0:=ze_ HB0 hB3;replace hR:Hid (zk_ wr.drew ao l):=hR.out.next hB3;clear hG;go_wp2;rcases hR.out with h' | ⟨q,off,rfl,h2⟩
   ·cases ao with
    | none=>
     subst h';have hck':((([]:List Sib).length:Nat):Int)<=(cap:Int):=by omega
     have SrcT:zG_ wr.drew _ _ (([]:List Sib).take 0):=(wK_:zG_ _ none 0 []);have SrcD:zG_ wr.drew _ _ (([]:List Sib).drop 0):=(wK_:zG_ _ none 0 []);refine wp_region_held_drew (S:=(fun w'=>(w'.cell? ⟨w.heap.size,0,none⟩=some (.int .i64 x.p)∧w'.cell? ⟨w.heap.size,1,none⟩=some (.int .i64 x.n)∧w'.cell? ⟨w.heap.size,2,none⟩=some (.int .i64 x.v)∧w'.cell? ⟨w.heap.size,3,none⟩=some (.bool x.d))∧Below wr.drew.heap.size wr.drew w')) (by kernel_rfl) ?_ (fun hH=>?_)
     ·(try dsimp only);exact ⟨⟨D0,D1,D2,D3⟩,zd_ _⟩
     refine wTk 1 ?_;refine wTk 2 ?_;refine wTk 3 ?_;refine wTk 8 ?_;refine wTk 9 ?_;refine wTk 10 ?_;refine wTk 5 ?_;have HBs:Below wr.drew.heap.size wr.drew wr.drew.drew:=zd_ _;refine wpAnyH_ready (rs:=[0,6]) (by kernel_rfl) (by simp) ?_;refine .cons rfl (fun K hK=>?_) (.cons rfl (fun K hK=>?_) .nil)
     ·refine wLy ?_;go_simp;(try simp only []);have OW11:Own wr.drew ((wr.drew.drew).alloc (.cells #[] 89)) 89 (.slice (some ⟨wr.drew.heap.size,0,none⟩) 0 0) 0 []:=by simpa using Own.lit (e:=89) HBs
      have HBn:Below wr.drew.heap.size wr.drew ((wr.drew.drew).alloc (.cells #[] 89)):=HBs.trans ((zb_ _ _).mono HBs.size);refine hK.out _ _ ?_ (fun hH'=>?_)
      ·(try dsimp only);exact d4_ HBn D0 D1 D2 D3 hz
      clear hK K hH;have hH:=hH';clear hH';have HB11:Below wr.drew.heap.size wr.drew ((wr.drew.drew).alloc (.cells #[] 89)):=HBn;clear HBn;refine wLy ?_;refine wpAnyH_ready (rs:=[4,6]) (by kernel_rfl) (by simp) ?_;refine .cons rfl (fun K hK=>?_) (.cons rfl (fun K hK=>?_) .nil)
      focus
       rw [if_pos (by rfl)];refine zr_ (.tmp 23) (.tmp 26) 33 rfl 89 i0 (.agg #[.int .i64 0,.int .i64 0,.int .i64 0,.bool false]) 32 Tryz.underlying33 HI.out.1 HI.out.2.1 HI.out.2.2.1 HI.out.2.2.2 rfl (.slice (some ⟨wr.drew.heap.size,0,none⟩) 0 0) _ _ rfl OW11.1 _ _ _ _ rfl (SrcT.next HB11) (by unfold maxLen; (try simp); (try omega)) (by (try simp); (try omega)) ?_;intro v12 w12 ho hg;have OW12:=OW11.app ho hg;have HBn:=OW12.2.1;clear ho hg;refine hK.out _ _ ?_ (fun hH'=>?_)
       ·(try dsimp only);exact d4_ HBn D0 D1 D2 D3 hz
       clear hK K hH;have hH:=hH';clear hH';have HB12:Below wr.drew.heap.size wr.drew (w12):=HBn;clear HBn;refine wLy ?_;refine wRd 6 (fun K hK=>?_);go_simp;(try simp only []);have OW13:=OW12.step (zb_ _ ((.cells #[.int .i64 x.p,.int .i64 x.n,.int .i64 x.v,.bool x.d] 89)));have SO13:zG_ ((w12).alloc (.cells #[.int .i64 x.p,.int .i64 x.n,.int .i64 x.v,.bool x.d] 89)) (some ⟨w12.heap.size,0,none⟩) 1 [x]:=by simpa using (z7_ (W:=w12) (x:=x) (t:=89))
       have HBn:Below wr.drew.heap.size wr.drew ((w12).alloc (.cells #[.int .i64 x.p,.int .i64 x.n,.int .i64 x.v,.bool x.d] 89)):=HB12.trans ((zb_ _ _).mono HB12.size);refine hK.out _ _ ?_ (fun hH'=>?_)
       ·(try dsimp only);exact d4_ HBn D0 D1 D2 D3 hz
       clear hK K hH;have hH:=hH';clear hH';have HB13:Below wr.drew.heap.size wr.drew ((w12).alloc (.cells #[.int .i64 x.p,.int .i64 x.n,.int .i64 x.v,.bool x.d] 89)):=HBn;clear HBn;refine wLy ?_;refine wpAnyH_ready (rs:=[7]) (by kernel_rfl) (by simp) ?_;refine .cons rfl (fun K hK=>?_) .nil;rw [if_pos (by rfl)];refine zr_ (.tmp 27) (.tmp 29) 33 rfl 89 i0 (.agg #[.int .i64 0,.int .i64 0,.int .i64 0,.bool false]) 32 Tryz.underlying33 HI.out.1 HI.out.2.1 HI.out.2.2.1 HI.out.2.2.2 rfl v12 _ _ rfl OW13.1 _ _ _ _ rfl SO13 (by unfold maxLen; (try simp); (try omega)) (by (try simp); (try omega)) ?_
      rotate_left
      focus
       refine wLy ?_;go_simp;(try simp only []);have OW12:=OW11.step (zb_ _ ((.cells #[.int .i64 x.p,.int .i64 x.n,.int .i64 x.v,.bool x.d] 89)));have SO12:zG_ (((wr.drew.drew).alloc (.cells #[] 89)).alloc (.cells #[.int .i64 x.p,.int .i64 x.n,.int .i64 x.v,.bool x.d] 89)) (some ⟨wr.drew.heap.size+1,0,none⟩) 1 [x]:=by simpa using (z7_ (W:=(wr.drew.drew).alloc (.cells #[] 89)) (x:=x) (t:=89))
       have HBn:Below wr.drew.heap.size wr.drew (((wr.drew.drew).alloc (.cells #[] 89)).alloc (.cells #[.int .i64 x.p,.int .i64 x.n,.int .i64 x.v,.bool x.d] 89)):=HB11.trans ((zb_ _ _).mono HB11.size);refine hK.out _ _ ?_ (fun hH'=>?_)
       ·(try dsimp only);exact d4_ HBn D0 D1 D2 D3 hz
       clear hK K hH;have hH:=hH';clear hH';have HB12:Below wr.drew.heap.size wr.drew (((wr.drew.drew).alloc (.cells #[] 89)).alloc (.cells #[.int .i64 x.p,.int .i64 x.n,.int .i64 x.v,.bool x.d] 89)):=HBn;clear HBn;refine wLy ?_;refine wpAnyH_ready (rs:=[4]) (by kernel_rfl) (by simp) ?_;refine .cons rfl (fun K hK=>?_) .nil;rw [if_pos (by rfl)];refine zr_ (.tmp 23) (.tmp 26) 33 rfl 89 i0 (.agg #[.int .i64 0,.int .i64 0,.int .i64 0,.bool false]) 32 Tryz.underlying33 HI.out.1 HI.out.2.1 HI.out.2.2.1 HI.out.2.2.2 rfl (.slice (some ⟨wr.drew.heap.size,0,none⟩) 0 0) _ _ rfl OW12.1 _ _ _ _ rfl (SrcT.next HB12) (by unfold maxLen; (try simp); (try omega)) (by (try simp); (try omega)) ?_;intro v13 w13 ho hg;have OW13:=OW12.app ho hg;have SO13:=xE_ SO12 hg (by simp [Value.ownBlock]);have HBn:=OW13.2.1;clear ho hg;refine hK.out _ _ ?_ (fun hH'=>?_)
       ·(try dsimp only);exact d4_ HBn D0 D1 D2 D3 hz
       clear hK K hH;have hH:=hH';clear hH';have HB13:Below wr.drew.heap.size wr.drew (w13):=HBn;clear HBn;refine wLy ?_;refine wpAnyH_ready (rs:=[7]) (by kernel_rfl) (by simp) ?_;refine .cons rfl (fun K hK=>?_) .nil;rw [if_pos (by rfl)];refine zr_ (.tmp 27) (.tmp 29) 33 rfl 89 i0 (.agg #[.int .i64 0,.int .i64 0,.int .i64 0,.bool false]) 32 Tryz.underlying33 HI.out.1 HI.out.2.1 HI.out.2.2.1 HI.out.2.2.2 rfl v13 _ _ rfl OW13.1 _ _ _ _ rfl SO13 (by unfold maxLen; (try simp); (try omega)) (by (try simp); (try omega)) ?_
      rotate_left
      all_goals
       intro v14 w14 ho hg;have OW14:=OW13.app ho hg;have HBn:=OW14.2.1;clear ho hg;refine hK.out _ _ ?_ (fun hH'=>?_)
       ·(try dsimp only);exact d4_ HBn D0 D1 D2 D3 hz
       clear hK K hH;have hH:=hH';clear hH';have HB14:Below wr.drew.heap.size wr.drew (w14):=HBn;clear HBn;refine wLy ?_;refine wpAnyH_ready (rs:=[11]) (by kernel_rfl) (by simp) ?_;refine .cons rfl (fun K hK=>?_) .nil;rw [if_pos (by rfl)];refine zr_ (.tmp 30) (.tmp 33) 33 rfl 89 i0 (.agg #[.int .i64 0,.int .i64 0,.int .i64 0,.bool false]) 32 Tryz.underlying33 HI.out.1 HI.out.2.1 HI.out.2.2.1 HI.out.2.2.2 rfl v14 _ _ rfl OW14.1 _ _ _ _ rfl (SrcD.next HB14) (by unfold maxLen; (try simp); (try omega)) (by (try simp); (try omega)) ?_;intro v15 w15 ho hg;have OW15:=OW14.app ho hg;have HBn:=OW15.2.1;clear ho hg;refine hK.out _ _ ?_ (fun hH'=>?_)
       ·(try dsimp only);exact d4_ HBn D0 D1 D2 D3 hz
       clear hK K hH;have hH:=hH';clear hH';have HB15:Below wr.drew.heap.size wr.drew (w15):=HBn;clear HBn;refine wLy ?_;refine wTk 12 ?_;refine wDn ?_;have O9:Hid (Own wr.drew w15 89 v15 _ _):=OW15;clear hH D0 D1 D2 D3;go_wp2
       all_goals go_ret
       all_goals exact ⟨_,rfl,zA_ O9.out.1 (by rw [<- HPT.out]; (try simp); (try omega)) (by rw [<- HPT.out]; simp [zz_,flat]),(Gro.of_below HB0.out).trans O9.out.gro⟩
     ·refine wLy ?_;go_simp;(try simp only []);have SO11:zG_ ((wr.drew.drew).alloc (.cells #[.int .i64 x.p,.int .i64 x.n,.int .i64 x.v,.bool x.d] 89)) (some ⟨wr.drew.heap.size,0,none⟩) 1 [x]:=by simpa using (z7_ (W:=wr.drew.drew) (x:=x) (t:=89))
      have HBn:Below wr.drew.heap.size wr.drew ((wr.drew.drew).alloc (.cells #[.int .i64 x.p,.int .i64 x.n,.int .i64 x.v,.bool x.d] 89)):=HBs.trans ((zb_ _ _).mono HBs.size);refine hK.out _ _ ?_ (fun hH'=>?_)
      ·(try dsimp only);exact d4_ HBn D0 D1 D2 D3 hz
      clear hK K hH;have hH:=hH';clear hH';have HB11:Below wr.drew.heap.size wr.drew ((wr.drew.drew).alloc (.cells #[.int .i64 x.p,.int .i64 x.n,.int .i64 x.v,.bool x.d] 89)):=HBn;clear HBn;refine wLy ?_;refine wRd 0 (fun K hK=>?_);go_simp;(try simp only []);have OW12:Own wr.drew (((wr.drew.drew).alloc (.cells #[.int .i64 x.p,.int .i64 x.n,.int .i64 x.v,.bool x.d] 89)).alloc (.cells #[] 89)) 89 (.slice (some ⟨wr.drew.heap.size+1,0,none⟩) 0 0) 0 []:=by simpa using Own.lit (e:=89) HB11
      have SO12:=SO11.next (zb_ _ ((.cells #[] 89)));have HBn:Below wr.drew.heap.size wr.drew (((wr.drew.drew).alloc (.cells #[.int .i64 x.p,.int .i64 x.n,.int .i64 x.v,.bool x.d] 89)).alloc (.cells #[] 89)):=HB11.trans ((zb_ _ _).mono HB11.size);refine hK.out _ _ ?_ (fun hH'=>?_)
      ·(try dsimp only);exact d4_ HBn D0 D1 D2 D3 hz
      clear hK K hH;have hH:=hH';clear hH';have HB12:Below wr.drew.heap.size wr.drew (((wr.drew.drew).alloc (.cells #[.int .i64 x.p,.int .i64 x.n,.int .i64 x.v,.bool x.d] 89)).alloc (.cells #[] 89)):=HBn;clear HBn;refine wLy ?_;refine wpAnyH_ready (rs:=[4]) (by kernel_rfl) (by simp) ?_;refine .cons rfl (fun K hK=>?_) .nil;rw [if_pos (by rfl)];refine zr_ (.tmp 23) (.tmp 26) 33 rfl 89 i0 (.agg #[.int .i64 0,.int .i64 0,.int .i64 0,.bool false]) 32 Tryz.underlying33 HI.out.1 HI.out.2.1 HI.out.2.2.1 HI.out.2.2.2 rfl (.slice (some ⟨wr.drew.heap.size+1,0,none⟩) 0 0) _ _ rfl OW12.1 _ _ _ _ rfl (SrcT.next HB12) (by unfold maxLen; (try simp); (try omega)) (by (try simp); (try omega)) ?_;intro v13 w13 ho hg;have OW13:=OW12.app ho hg;have SO13:=xE_ SO12 hg (by simp [Value.ownBlock]);have HBn:=OW13.2.1;clear ho hg;refine hK.out _ _ ?_ (fun hH'=>?_)
      ·(try dsimp only);exact d4_ HBn D0 D1 D2 D3 hz
      clear hK K hH;have hH:=hH';clear hH';have HB13:Below wr.drew.heap.size wr.drew (w13):=HBn;clear HBn;refine wLy ?_;refine wpAnyH_ready (rs:=[7]) (by kernel_rfl) (by simp) ?_;refine .cons rfl (fun K hK=>?_) .nil;rw [if_pos (by rfl)];refine zr_ (.tmp 27) (.tmp 29) 33 rfl 89 i0 (.agg #[.int .i64 0,.int .i64 0,.int .i64 0,.bool false]) 32 Tryz.underlying33 HI.out.1 HI.out.2.1 HI.out.2.2.1 HI.out.2.2.2 rfl v13 _ _ rfl OW13.1 _ _ _ _ rfl SO13 (by unfold maxLen; (try simp); (try omega)) (by (try simp); (try omega)) ?_;intro v14 w14 ho hg;have OW14:=OW13.app ho hg;have HBn:=OW14.2.1;clear ho hg;refine hK.out _ _ ?_ (fun hH'=>?_)
      ·(try dsimp only);exact d4_ HBn D0 D1 D2 D3 hz
      clear hK K hH;have hH:=hH';clear hH';have HB14:Below wr.drew.heap.size wr.drew (w14):=HBn;clear HBn;refine wLy ?_;refine wpAnyH_ready (rs:=[11]) (by kernel_rfl) (by simp) ?_;refine .cons rfl (fun K hK=>?_) .nil;rw [if_pos (by rfl)];refine zr_ (.tmp 30) (.tmp 33) 33 rfl 89 i0 (.agg #[.int .i64 0,.int .i64 0,.int .i64 0,.bool false]) 32 Tryz.underlying33 HI.out.1 HI.out.2.1 HI.out.2.2.1 HI.out.2.2.2 rfl v14 _ _ rfl OW14.1 _ _ _ _ rfl (SrcD.next HB14) (by unfold maxLen; (try simp); (try omega)) (by (try simp); (try omega)) ?_;intro v15 w15 ho hg;have OW15:=OW14.app ho hg;have HBn:=OW15.2.1;clear ho hg;refine hK.out _ _ ?_ (fun hH'=>?_)
      ·(try dsimp only);exact d4_ HBn D0 D1 D2 D3 hz
      clear hK K hH;have hH:=hH';clear hH';have HB15:Below wr.drew.heap.size wr.drew (w15):=HBn;clear HBn;refine wLy ?_;refine wTk 12 ?_;refine wDn ?_;have O9:Hid (Own wr.drew w15 89 v15 _ _):=OW15;clear hH D0 D1 D2 D3;go_wp2
      all_goals go_ret
      all_goals exact ⟨_,rfl,zA_ O9.out.1 (by rw [<- HPT.out]; (try simp); (try omega)) (by rw [<- HPT.out]; simp [zz_,flat]),(Gro.of_below HB0.out).trans O9.out.gro⟩
    | some ad=>
     subst h';have hck':((([]:List Sib).length:Nat):Int)<=(cap:Int):=by omega
     have SrcT:zG_ wr.drew _ _ (([]:List Sib).take 0):=(wK_:zG_ _ (some ad) 0 []);have SrcD:zG_ wr.drew _ _ (([]:List Sib).drop 0):=(wK_:zG_ _ (some ad) 0 []);refine wp_region_held_drew (S:=(fun w'=>(w'.cell? ⟨w.heap.size,0,none⟩=some (.int .i64 x.p)∧w'.cell? ⟨w.heap.size,1,none⟩=some (.int .i64 x.n)∧w'.cell? ⟨w.heap.size,2,none⟩=some (.int .i64 x.v)∧w'.cell? ⟨w.heap.size,3,none⟩=some (.bool x.d))∧Below wr.drew.heap.size wr.drew w')) (by kernel_rfl) ?_ (fun hH=>?_)
     ·(try dsimp only);exact ⟨⟨D0,D1,D2,D3⟩,zd_ _⟩
     refine wTk 1 ?_;refine wTk 2 ?_;refine wTk 3 ?_;refine wTk 8 ?_;refine wTk 9 ?_;refine wTk 10 ?_;refine wTk 5 ?_;have HBs:Below wr.drew.heap.size wr.drew wr.drew.drew:=zd_ _;refine wpAnyH_ready (rs:=[0,6]) (by kernel_rfl) (by simp) ?_;refine .cons rfl (fun K hK=>?_) (.cons rfl (fun K hK=>?_) .nil)
     ·refine wLy ?_;go_simp;(try simp only []);have OW11:Own wr.drew ((wr.drew.drew).alloc (.cells #[] 89)) 89 (.slice (some ⟨wr.drew.heap.size,0,none⟩) 0 0) 0 []:=by simpa using Own.lit (e:=89) HBs
      have HBn:Below wr.drew.heap.size wr.drew ((wr.drew.drew).alloc (.cells #[] 89)):=HBs.trans ((zb_ _ _).mono HBs.size);refine hK.out _ _ ?_ (fun hH'=>?_)
      ·(try dsimp only);exact d4_ HBn D0 D1 D2 D3 hz
      clear hK K hH;have hH:=hH';clear hH';have HB11:Below wr.drew.heap.size wr.drew ((wr.drew.drew).alloc (.cells #[] 89)):=HBn;clear HBn;refine wLy ?_;refine wpAnyH_ready (rs:=[4,6]) (by kernel_rfl) (by simp) ?_;refine .cons rfl (fun K hK=>?_) (.cons rfl (fun K hK=>?_) .nil)
      focus
       rw [if_pos (by rfl)];refine zr_ (.tmp 23) (.tmp 26) 33 rfl 89 i0 (.agg #[.int .i64 0,.int .i64 0,.int .i64 0,.bool false]) 32 Tryz.underlying33 HI.out.1 HI.out.2.1 HI.out.2.2.1 HI.out.2.2.2 rfl (.slice (some ⟨wr.drew.heap.size,0,none⟩) 0 0) _ _ rfl OW11.1 _ _ _ _ rfl (SrcT.next HB11) (by unfold maxLen; (try simp); (try omega)) (by (try simp); (try omega)) ?_;intro v12 w12 ho hg;have OW12:=OW11.app ho hg;have HBn:=OW12.2.1;clear ho hg;refine hK.out _ _ ?_ (fun hH'=>?_)
       ·(try dsimp only);exact d4_ HBn D0 D1 D2 D3 hz
       clear hK K hH;have hH:=hH';clear hH';have HB12:Below wr.drew.heap.size wr.drew (w12):=HBn;clear HBn;refine wLy ?_;refine wRd 6 (fun K hK=>?_);go_simp;(try simp only []);have OW13:=OW12.step (zb_ _ ((.cells #[.int .i64 x.p,.int .i64 x.n,.int .i64 x.v,.bool x.d] 89)));have SO13:zG_ ((w12).alloc (.cells #[.int .i64 x.p,.int .i64 x.n,.int .i64 x.v,.bool x.d] 89)) (some ⟨w12.heap.size,0,none⟩) 1 [x]:=by simpa using (z7_ (W:=w12) (x:=x) (t:=89))
       have HBn:Below wr.drew.heap.size wr.drew ((w12).alloc (.cells #[.int .i64 x.p,.int .i64 x.n,.int .i64 x.v,.bool x.d] 89)):=HB12.trans ((zb_ _ _).mono HB12.size);refine hK.out _ _ ?_ (fun hH'=>?_)
       ·(try dsimp only);exact d4_ HBn D0 D1 D2 D3 hz
       clear hK K hH;have hH:=hH';clear hH';have HB13:Below wr.drew.heap.size wr.drew ((w12).alloc (.cells #[.int .i64 x.p,.int .i64 x.n,.int .i64 x.v,.bool x.d] 89)):=HBn;clear HBn;refine wLy ?_;refine wpAnyH_ready (rs:=[7]) (by kernel_rfl) (by simp) ?_;refine .cons rfl (fun K hK=>?_) .nil;rw [if_pos (by rfl)];refine zr_ (.tmp 27) (.tmp 29) 33 rfl 89 i0 (.agg #[.int .i64 0,.int .i64 0,.int .i64 0,.bool false]) 32 Tryz.underlying33 HI.out.1 HI.out.2.1 HI.out.2.2.1 HI.out.2.2.2 rfl v12 _ _ rfl OW13.1 _ _ _ _ rfl SO13 (by unfold maxLen; (try simp); (try omega)) (by (try simp); (try omega)) ?_
      rotate_left
      focus
       refine wLy ?_;go_simp;(try simp only []);have OW12:=OW11.step (zb_ _ ((.cells #[.int .i64 x.p,.int .i64 x.n,.int .i64 x.v,.bool x.d] 89)));have SO12:zG_ (((wr.drew.drew).alloc (.cells #[] 89)).alloc (.cells #[.int .i64 x.p,.int .i64 x.n,.int .i64 x.v,.bool x.d] 89)) (some ⟨wr.drew.heap.size+1,0,none⟩) 1 [x]:=by simpa using (z7_ (W:=(wr.drew.drew).alloc (.cells #[] 89)) (x:=x) (t:=89))
       have HBn:Below wr.drew.heap.size wr.drew (((wr.drew.drew).alloc (.cells #[] 89)).alloc (.cells #[.int .i64 x.p,.int .i64 x.n,.int .i64 x.v,.bool x.d] 89)):=HB11.trans ((zb_ _ _).mono HB11.size);refine hK.out _ _ ?_ (fun hH'=>?_)
       ·(try dsimp only);exact d4_ HBn D0 D1 D2 D3 hz
       clear hK K hH;have hH:=hH';clear hH';have HB12:Below wr.drew.heap.size wr.drew (((wr.drew.drew).alloc (.cells #[] 89)).alloc (.cells #[.int .i64 x.p,.int .i64 x.n,.int .i64 x.v,.bool x.d] 89)):=HBn;clear HBn;refine wLy ?_;refine wpAnyH_ready (rs:=[4]) (by kernel_rfl) (by simp) ?_;refine .cons rfl (fun K hK=>?_) .nil;rw [if_pos (by rfl)];refine zr_ (.tmp 23) (.tmp 26) 33 rfl 89 i0 (.agg #[.int .i64 0,.int .i64 0,.int .i64 0,.bool false]) 32 Tryz.underlying33 HI.out.1 HI.out.2.1 HI.out.2.2.1 HI.out.2.2.2 rfl (.slice (some ⟨wr.drew.heap.size,0,none⟩) 0 0) _ _ rfl OW12.1 _ _ _ _ rfl (SrcT.next HB12) (by unfold maxLen; (try simp); (try omega)) (by (try simp); (try omega)) ?_;intro v13 w13 ho hg;have OW13:=OW12.app ho hg;have SO13:=xE_ SO12 hg (by simp [Value.ownBlock]);have HBn:=OW13.2.1;clear ho hg;refine hK.out _ _ ?_ (fun hH'=>?_)
       ·(try dsimp only);exact d4_ HBn D0 D1 D2 D3 hz
       clear hK K hH;have hH:=hH';clear hH';have HB13:Below wr.drew.heap.size wr.drew (w13):=HBn;clear HBn;refine wLy ?_;refine wpAnyH_ready (rs:=[7]) (by kernel_rfl) (by simp) ?_;refine .cons rfl (fun K hK=>?_) .nil;rw [if_pos (by rfl)];refine zr_ (.tmp 27) (.tmp 29) 33 rfl 89 i0 (.agg #[.int .i64 0,.int .i64 0,.int .i64 0,.bool false]) 32 Tryz.underlying33 HI.out.1 HI.out.2.1 HI.out.2.2.1 HI.out.2.2.2 rfl v13 _ _ rfl OW13.1 _ _ _ _ rfl SO13 (by unfold maxLen; (try simp); (try omega)) (by (try simp); (try omega)) ?_
      rotate_left
      all_goals
       intro v14 w14 ho hg;have OW14:=OW13.app ho hg;have HBn:=OW14.2.1;clear ho hg;refine hK.out _ _ ?_ (fun hH'=>?_)
       ·(try dsimp only);exact d4_ HBn D0 D1 D2 D3 hz
       clear hK K hH;have hH:=hH';clear hH';have HB14:Below wr.drew.heap.size wr.drew (w14):=HBn;clear HBn;refine wLy ?_;refine wpAnyH_ready (rs:=[11]) (by kernel_rfl) (by simp) ?_;refine .cons rfl (fun K hK=>?_) .nil;rw [if_pos (by rfl)];refine zr_ (.tmp 30) (.tmp 33) 33 rfl 89 i0 (.agg #[.int .i64 0,.int .i64 0,.int .i64 0,.bool false]) 32 Tryz.underlying33 HI.out.1 HI.out.2.1 HI.out.2.2.1 HI.out.2.2.2 rfl v14 _ _ rfl OW14.1 _ _ _ _ rfl (SrcD.next HB14) (by unfold maxLen; (try simp); (try omega)) (by (try simp); (try omega)) ?_;intro v15 w15 ho hg;have OW15:=OW14.app ho hg;have HBn:=OW15.2.1;clear ho hg;refine hK.out _ _ ?_ (fun hH'=>?_)
       ·(try dsimp only);exact d4_ HBn D0 D1 D2 D3 hz
       clear hK K hH;have hH:=hH';clear hH';have HB15:Below wr.drew.heap.size wr.drew (w15):=HBn;clear HBn;refine wLy ?_;refine wTk 12 ?_;refine wDn ?_;have O9:Hid (Own wr.drew w15 89 v15 _ _):=OW15;clear hH D0 D1 D2 D3;go_wp2
       all_goals go_ret
       all_goals exact ⟨_,rfl,zA_ O9.out.1 (by rw [<- HPT.out]; (try simp); (try omega)) (by rw [<- HPT.out]; simp [zz_,flat]),(Gro.of_below HB0.out).trans O9.out.gro⟩
     ·refine wLy ?_;go_simp;(try simp only []);have SO11:zG_ ((wr.drew.drew).alloc (.cells #[.int .i64 x.p,.int .i64 x.n,.int .i64 x.v,.bool x.d] 89)) (some ⟨wr.drew.heap.size,0,none⟩) 1 [x]:=by simpa using (z7_ (W:=wr.drew.drew) (x:=x) (t:=89))
      have HBn:Below wr.drew.heap.size wr.drew ((wr.drew.drew).alloc (.cells #[.int .i64 x.p,.int .i64 x.n,.int .i64 x.v,.bool x.d] 89)):=HBs.trans ((zb_ _ _).mono HBs.size);refine hK.out _ _ ?_ (fun hH'=>?_)
      ·(try dsimp only);exact d4_ HBn D0 D1 D2 D3 hz
      clear hK K hH;have hH:=hH';clear hH';have HB11:Below wr.drew.heap.size wr.drew ((wr.drew.drew).alloc (.cells #[.int .i64 x.p,.int .i64 x.n,.int .i64 x.v,.bool x.d] 89)):=HBn;clear HBn;refine wLy ?_;refine wRd 0 (fun K hK=>?_);go_simp;(try simp only []);have OW12:Own wr.drew (((wr.drew.drew).alloc (.cells #[.int .i64 x.p,.int .i64 x.n,.int .i64 x.v,.bool x.d] 89)).alloc (.cells #[] 89)) 89 (.slice (some ⟨wr.drew.heap.size+1,0,none⟩) 0 0) 0 []:=by simpa using Own.lit (e:=89) HB11
      have SO12:=SO11.next (zb_ _ ((.cells #[] 89)));have HBn:Below wr.drew.heap.size wr.drew (((wr.drew.drew).alloc (.cells #[.int .i64 x.p,.int .i64 x.n,.int .i64 x.v,.bool x.d] 89)).alloc (.cells #[] 89)):=HB11.trans ((zb_ _ _).mono HB11.size);refine hK.out _ _ ?_ (fun hH'=>?_)
      ·(try dsimp only);exact d4_ HBn D0 D1 D2 D3 hz
      clear hK K hH;have hH:=hH';clear hH';have HB12:Below wr.drew.heap.size wr.drew (((wr.drew.drew).alloc (.cells #[.int .i64 x.p,.int .i64 x.n,.int .i64 x.v,.bool x.d] 89)).alloc (.cells #[] 89)):=HBn;clear HBn;refine wLy ?_;refine wpAnyH_ready (rs:=[4]) (by kernel_rfl) (by simp) ?_;refine .cons rfl (fun K hK=>?_) .nil;rw [if_pos (by rfl)];refine zr_ (.tmp 23) (.tmp 26) 33 rfl 89 i0 (.agg #[.int .i64 0,.int .i64 0,.int .i64 0,.bool false]) 32 Tryz.underlying33 HI.out.1 HI.out.2.1 HI.out.2.2.1 HI.out.2.2.2 rfl (.slice (some ⟨wr.drew.heap.size+1,0,none⟩) 0 0) _ _ rfl OW12.1 _ _ _ _ rfl (SrcT.next HB12) (by unfold maxLen; (try simp); (try omega)) (by (try simp); (try omega)) ?_;intro v13 w13 ho hg;have OW13:=OW12.app ho hg;have SO13:=xE_ SO12 hg (by simp [Value.ownBlock]);have HBn:=OW13.2.1;clear ho hg;refine hK.out _ _ ?_ (fun hH'=>?_)
      ·(try dsimp only);exact d4_ HBn D0 D1 D2 D3 hz
      clear hK K hH;have hH:=hH';clear hH';have HB13:Below wr.drew.heap.size wr.drew (w13):=HBn;clear HBn;refine wLy ?_;refine wpAnyH_ready (rs:=[7]) (by kernel_rfl) (by simp) ?_;refine .cons rfl (fun K hK=>?_) .nil;rw [if_pos (by rfl)];refine zr_ (.tmp 27) (.tmp 29) 33 rfl 89 i0 (.agg #[.int .i64 0,.int .i64 0,.int .i64 0,.bool false]) 32 Tryz.underlying33 HI.out.1 HI.out.2.1 HI.out.2.2.1 HI.out.2.2.2 rfl v13 _ _ rfl OW13.1 _ _ _ _ rfl SO13 (by unfold maxLen; (try simp); (try omega)) (by (try simp); (try omega)) ?_;intro v14 w14 ho hg;have OW14:=OW13.app ho hg;have HBn:=OW14.2.1;clear ho hg;refine hK.out _ _ ?_ (fun hH'=>?_)
      ·(try dsimp only);exact d4_ HBn D0 D1 D2 D3 hz
      clear hK K hH;have hH:=hH';clear hH';have HB14:Below wr.drew.heap.size wr.drew (w14):=HBn;clear HBn;refine wLy ?_;refine wpAnyH_ready (rs:=[11]) (by kernel_rfl) (by simp) ?_;refine .cons rfl (fun K hK=>?_) .nil;rw [if_pos (by rfl)];refine zr_ (.tmp 30) (.tmp 33) 33 rfl 89 i0 (.agg #[.int .i64 0,.int .i64 0,.int .i64 0,.bool false]) 32 Tryz.underlying33 HI.out.1 HI.out.2.1 HI.out.2.2.1 HI.out.2.2.2 rfl v14 _ _ rfl OW14.1 _ _ _ _ rfl (SrcD.next HB14) (by unfold maxLen; (try simp); (try omega)) (by (try simp); (try omega)) ?_;intro v15 w15 ho hg;have OW15:=OW14.app ho hg;have HBn:=OW15.2.1;clear ho hg;refine hK.out _ _ ?_ (fun hH'=>?_)
      ·(try dsimp only);exact d4_ HBn D0 D1 D2 D3 hz
      clear hK K hH;have hH:=hH';clear hH';have HB15:Below wr.drew.heap.size wr.drew (w15):=HBn;clear HBn;refine wLy ?_;refine wTk 12 ?_;refine wDn ?_;have O9:Hid (Own wr.drew w15 89 v15 _ _):=OW15;clear hH D0 D1 D2 D3;go_wp2
      all_goals go_ret
      all_goals exact ⟨_,rfl,zA_ O9.out.1 (by rw [<- HPT.out]; (try simp); (try omega)) (by rw [<- HPT.out]; simp [zz_,flat]),(Gro.of_below HB0.out).trans O9.out.gro⟩
   ·clear h2;have hck':(l.length:Int)<=(cap:Int):=by omega
    have SrcT:zG_ wr.drew _ _ (l.take l.length):=sk_ hk hR.out;have SrcD:zG_ wr.drew _ _ (l.drop l.length):=uH_ hcap hR.out;refine wp_region_held_drew (S:=(fun w'=>(w'.cell? ⟨w.heap.size,0,none⟩=some (.int .i64 x.p)∧w'.cell? ⟨w.heap.size,1,none⟩=some (.int .i64 x.n)∧w'.cell? ⟨w.heap.size,2,none⟩=some (.int .i64 x.v)∧w'.cell? ⟨w.heap.size,3,none⟩=some (.bool x.d))∧Below wr.drew.heap.size wr.drew w')) (by kernel_rfl) ?_ (fun hH=>?_)
    ·(try dsimp only);exact ⟨⟨D0,D1,D2,D3⟩,zd_ _⟩
    refine wTk 1 ?_;refine wTk 2 ?_;refine wTk 3 ?_;refine wTk 8 ?_;refine wTk 9 ?_;refine wTk 10 ?_;refine wTk 5 ?_;have HBs:Below wr.drew.heap.size wr.drew wr.drew.drew:=zd_ _;refine wpAnyH_ready (rs:=[0,6]) (by kernel_rfl) (by simp) ?_;refine .cons rfl (fun K hK=>?_) (.cons rfl (fun K hK=>?_) .nil)
    ·refine wLy ?_;go_simp;(try simp only []);have OW11:Own wr.drew ((wr.drew.drew).alloc (.cells #[] 89)) 89 (.slice (some ⟨wr.drew.heap.size,0,none⟩) 0 0) 0 []:=by simpa using Own.lit (e:=89) HBs
     have HBn:Below wr.drew.heap.size wr.drew ((wr.drew.drew).alloc (.cells #[] 89)):=HBs.trans ((zb_ _ _).mono HBs.size);refine hK.out _ _ ?_ (fun hH'=>?_)
     ·(try dsimp only);exact d4_ HBn D0 D1 D2 D3 hz
     clear hK K hH;have hH:=hH';clear hH';have HB11:Below wr.drew.heap.size wr.drew ((wr.drew.drew).alloc (.cells #[] 89)):=HBn;clear HBn;refine wLy ?_;refine wpAnyH_ready (rs:=[4,6]) (by kernel_rfl) (by simp) ?_;refine .cons rfl (fun K hK=>?_) (.cons rfl (fun K hK=>?_) .nil)
     focus
      rw [if_pos (by rfl)];refine zr_ (.tmp 23) (.tmp 26) 33 rfl 89 i0 (.agg #[.int .i64 0,.int .i64 0,.int .i64 0,.bool false]) 32 Tryz.underlying33 HI.out.1 HI.out.2.1 HI.out.2.2.1 HI.out.2.2.2 rfl (.slice (some ⟨wr.drew.heap.size,0,none⟩) 0 0) _ _ rfl OW11.1 _ _ _ _ rfl (SrcT.next HB11) (by unfold maxLen; (try simp); (try omega)) (by (try simp); (try omega)) ?_;intro v12 w12 ho hg;have OW12:=OW11.app ho hg;have HBn:=OW12.2.1;clear ho hg;refine hK.out _ _ ?_ (fun hH'=>?_)
      ·(try dsimp only);exact d4_ HBn D0 D1 D2 D3 hz
      clear hK K hH;have hH:=hH';clear hH';have HB12:Below wr.drew.heap.size wr.drew (w12):=HBn;clear HBn;refine wLy ?_;refine wRd 6 (fun K hK=>?_);go_simp;(try simp only []);have OW13:=OW12.step (zb_ _ ((.cells #[.int .i64 x.p,.int .i64 x.n,.int .i64 x.v,.bool x.d] 89)));have SO13:zG_ ((w12).alloc (.cells #[.int .i64 x.p,.int .i64 x.n,.int .i64 x.v,.bool x.d] 89)) (some ⟨w12.heap.size,0,none⟩) 1 [x]:=by simpa using (z7_ (W:=w12) (x:=x) (t:=89))
      have HBn:Below wr.drew.heap.size wr.drew ((w12).alloc (.cells #[.int .i64 x.p,.int .i64 x.n,.int .i64 x.v,.bool x.d] 89)):=HB12.trans ((zb_ _ _).mono HB12.size);refine hK.out _ _ ?_ (fun hH'=>?_)
      ·(try dsimp only);exact d4_ HBn D0 D1 D2 D3 hz
      clear hK K hH;have hH:=hH';clear hH';have HB13:Below wr.drew.heap.size wr.drew ((w12).alloc (.cells #[.int .i64 x.p,.int .i64 x.n,.int .i64 x.v,.bool x.d] 89)):=HBn;clear HBn;refine wLy ?_;refine wpAnyH_ready (rs:=[7]) (by kernel_rfl) (by simp) ?_;refine .cons rfl (fun K hK=>?_) .nil;rw [if_pos (by rfl)];refine zr_ (.tmp 27) (.tmp 29) 33 rfl 89 i0 (.agg #[.int .i64 0,.int .i64 0,.int .i64 0,.bool false]) 32 Tryz.underlying33 HI.out.1 HI.out.2.1 HI.out.2.2.1 HI.out.2.2.2 rfl v12 _ _ rfl OW13.1 _ _ _ _ rfl SO13 (by unfold maxLen; (try simp); (try omega)) (by (try simp); (try omega)) ?_
     rotate_left
     focus
      refine wLy ?_;go_simp;(try simp only []);have OW12:=OW11.step (zb_ _ ((.cells #[.int .i64 x.p,.int .i64 x.n,.int .i64 x.v,.bool x.d] 89)));have SO12:zG_ (((wr.drew.drew).alloc (.cells #[] 89)).alloc (.cells #[.int .i64 x.p,.int .i64 x.n,.int .i64 x.v,.bool x.d] 89)) (some ⟨wr.drew.heap.size+1,0,none⟩) 1 [x]:=by simpa using (z7_ (W:=(wr.drew.drew).alloc (.cells #[] 89)) (x:=x) (t:=89))
      have HBn:Below wr.drew.heap.size wr.drew (((wr.drew.drew).alloc (.cells #[] 89)).alloc (.cells #[.int .i64 x.p,.int .i64 x.n,.int .i64 x.v,.bool x.d] 89)):=HB11.trans ((zb_ _ _).mono HB11.size);refine hK.out _ _ ?_ (fun hH'=>?_)
      ·(try dsimp only);exact d4_ HBn D0 D1 D2 D3 hz
      clear hK K hH;have hH:=hH';clear hH';have HB12:Below wr.drew.heap.size wr.drew (((wr.drew.drew).alloc (.cells #[] 89)).alloc (.cells #[.int .i64 x.p,.int .i64 x.n,.int .i64 x.v,.bool x.d] 89)):=HBn;clear HBn;refine wLy ?_;refine wpAnyH_ready (rs:=[4]) (by kernel_rfl) (by simp) ?_;refine .cons rfl (fun K hK=>?_) .nil;rw [if_pos (by rfl)];refine zr_ (.tmp 23) (.tmp 26) 33 rfl 89 i0 (.agg #[.int .i64 0,.int .i64 0,.int .i64 0,.bool false]) 32 Tryz.underlying33 HI.out.1 HI.out.2.1 HI.out.2.2.1 HI.out.2.2.2 rfl (.slice (some ⟨wr.drew.heap.size,0,none⟩) 0 0) _ _ rfl OW12.1 _ _ _ _ rfl (SrcT.next HB12) (by unfold maxLen; (try simp); (try omega)) (by (try simp); (try omega)) ?_;intro v13 w13 ho hg;have OW13:=OW12.app ho hg;have SO13:=xE_ SO12 hg (by simp [Value.ownBlock]);have HBn:=OW13.2.1;clear ho hg;refine hK.out _ _ ?_ (fun hH'=>?_)
      ·(try dsimp only);exact d4_ HBn D0 D1 D2 D3 hz
      clear hK K hH;have hH:=hH';clear hH';have HB13:Below wr.drew.heap.size wr.drew (w13):=HBn;clear HBn;refine wLy ?_;refine wpAnyH_ready (rs:=[7]) (by kernel_rfl) (by simp) ?_;refine .cons rfl (fun K hK=>?_) .nil;rw [if_pos (by rfl)];refine zr_ (.tmp 27) (.tmp 29) 33 rfl 89 i0 (.agg #[.int .i64 0,.int .i64 0,.int .i64 0,.bool false]) 32 Tryz.underlying33 HI.out.1 HI.out.2.1 HI.out.2.2.1 HI.out.2.2.2 rfl v13 _ _ rfl OW13.1 _ _ _ _ rfl SO13 (by unfold maxLen; (try simp); (try omega)) (by (try simp); (try omega)) ?_
     rotate_left
     all_goals
      intro v14 w14 ho hg;have OW14:=OW13.app ho hg;have HBn:=OW14.2.1;clear ho hg;refine hK.out _ _ ?_ (fun hH'=>?_)
      ·(try dsimp only);exact d4_ HBn D0 D1 D2 D3 hz
      clear hK K hH;have hH:=hH';clear hH';have HB14:Below wr.drew.heap.size wr.drew (w14):=HBn;clear HBn;refine wLy ?_;refine wpAnyH_ready (rs:=[11]) (by kernel_rfl) (by simp) ?_;refine .cons rfl (fun K hK=>?_) .nil;rw [if_pos (by rfl)];refine zr_ (.tmp 30) (.tmp 33) 33 rfl 89 i0 (.agg #[.int .i64 0,.int .i64 0,.int .i64 0,.bool false]) 32 Tryz.underlying33 HI.out.1 HI.out.2.1 HI.out.2.2.1 HI.out.2.2.2 rfl v14 _ _ rfl OW14.1 _ _ _ _ rfl (SrcD.next HB14) (by unfold maxLen; (try simp); (try omega)) (by (try simp); (try omega)) ?_;intro v15 w15 ho hg;have OW15:=OW14.app ho hg;have HBn:=OW15.2.1;clear ho hg;refine hK.out _ _ ?_ (fun hH'=>?_)
      ·(try dsimp only);exact d4_ HBn D0 D1 D2 D3 hz
      clear hK K hH;have hH:=hH';clear hH';have HB15:Below wr.drew.heap.size wr.drew (w15):=HBn;clear HBn;refine wLy ?_;refine wTk 12 ?_;refine wDn ?_;have O9:Hid (Own wr.drew w15 89 v15 _ _):=OW15;clear hH D0 D1 D2 D3;go_wp2
      all_goals go_ret
      all_goals exact ⟨_,rfl,zA_ O9.out.1 (by rw [<- HPT.out]; (try simp); (try omega)) (by rw [<- HPT.out]; simp [zz_,flat]),(Gro.of_below HB0.out).trans O9.out.gro⟩
    ·refine wLy ?_;go_simp;(try simp only []);have SO11:zG_ ((wr.drew.drew).alloc (.cells #[.int .i64 x.p,.int .i64 x.n,.int .i64 x.v,.bool x.d] 89)) (some ⟨wr.drew.heap.size,0,none⟩) 1 [x]:=by simpa using (z7_ (W:=wr.drew.drew) (x:=x) (t:=89))
     have HBn:Below wr.drew.heap.size wr.drew ((wr.drew.drew).alloc (.cells #[.int .i64 x.p,.int .i64 x.n,.int .i64 x.v,.bool x.d] 89)):=HBs.trans ((zb_ _ _).mono HBs.size);refine hK.out _ _ ?_ (fun hH'=>?_)
     ·(try dsimp only);exact d4_ HBn D0 D1 D2 D3 hz
     clear hK K hH;have hH:=hH';clear hH';have HB11:Below wr.drew.heap.size wr.drew ((wr.drew.drew).alloc (.cells #[.int .i64 x.p,.int .i64 x.n,.int .i64 x.v,.bool x.d] 89)):=HBn;clear HBn;refine wLy ?_;refine wRd 0 (fun K hK=>?_);go_simp;(try simp only []);have OW12:Own wr.drew (((wr.drew.drew).alloc (.cells #[.int .i64 x.p,.int .i64 x.n,.int .i64 x.v,.bool x.d] 89)).alloc (.cells #[] 89)) 89 (.slice (some ⟨wr.drew.heap.size+1,0,none⟩) 0 0) 0 []:=by simpa using Own.lit (e:=89) HB11
     have SO12:=SO11.next (zb_ _ ((.cells #[] 89)));have HBn:Below wr.drew.heap.size wr.drew (((wr.drew.drew).alloc (.cells #[.int .i64 x.p,.int .i64 x.n,.int .i64 x.v,.bool x.d] 89)).alloc (.cells #[] 89)):=HB11.trans ((zb_ _ _).mono HB11.size);refine hK.out _ _ ?_ (fun hH'=>?_)
     ·(try dsimp only);exact d4_ HBn D0 D1 D2 D3 hz
     clear hK K hH;have hH:=hH';clear hH';have HB12:Below wr.drew.heap.size wr.drew (((wr.drew.drew).alloc (.cells #[.int .i64 x.p,.int .i64 x.n,.int .i64 x.v,.bool x.d] 89)).alloc (.cells #[] 89)):=HBn;clear HBn;refine wLy ?_;refine wpAnyH_ready (rs:=[4]) (by kernel_rfl) (by simp) ?_;refine .cons rfl (fun K hK=>?_) .nil;rw [if_pos (by rfl)];refine zr_ (.tmp 23) (.tmp 26) 33 rfl 89 i0 (.agg #[.int .i64 0,.int .i64 0,.int .i64 0,.bool false]) 32 Tryz.underlying33 HI.out.1 HI.out.2.1 HI.out.2.2.1 HI.out.2.2.2 rfl (.slice (some ⟨wr.drew.heap.size+1,0,none⟩) 0 0) _ _ rfl OW12.1 _ _ _ _ rfl (SrcT.next HB12) (by unfold maxLen; (try simp); (try omega)) (by (try simp); (try omega)) ?_;intro v13 w13 ho hg;have OW13:=OW12.app ho hg;have SO13:=xE_ SO12 hg (by simp [Value.ownBlock]);have HBn:=OW13.2.1;clear ho hg;refine hK.out _ _ ?_ (fun hH'=>?_)
     ·(try dsimp only);exact d4_ HBn D0 D1 D2 D3 hz
     clear hK K hH;have hH:=hH';clear hH';have HB13:Below wr.drew.heap.size wr.drew (w13):=HBn;clear HBn;refine wLy ?_;refine wpAnyH_ready (rs:=[7]) (by kernel_rfl) (by simp) ?_;refine .cons rfl (fun K hK=>?_) .nil;rw [if_pos (by rfl)];refine zr_ (.tmp 27) (.tmp 29) 33 rfl 89 i0 (.agg #[.int .i64 0,.int .i64 0,.int .i64 0,.bool false]) 32 Tryz.underlying33 HI.out.1 HI.out.2.1 HI.out.2.2.1 HI.out.2.2.2 rfl v13 _ _ rfl OW13.1 _ _ _ _ rfl SO13 (by unfold maxLen; (try simp); (try omega)) (by (try simp); (try omega)) ?_;intro v14 w14 ho hg;have OW14:=OW13.app ho hg;have HBn:=OW14.2.1;clear ho hg;refine hK.out _ _ ?_ (fun hH'=>?_)
     ·(try dsimp only);exact d4_ HBn D0 D1 D2 D3 hz
     clear hK K hH;have hH:=hH';clear hH';have HB14:Below wr.drew.heap.size wr.drew (w14):=HBn;clear HBn;refine wLy ?_;refine wpAnyH_ready (rs:=[11]) (by kernel_rfl) (by simp) ?_;refine .cons rfl (fun K hK=>?_) .nil;rw [if_pos (by rfl)];refine zr_ (.tmp 30) (.tmp 33) 33 rfl 89 i0 (.agg #[.int .i64 0,.int .i64 0,.int .i64 0,.bool false]) 32 Tryz.underlying33 HI.out.1 HI.out.2.1 HI.out.2.2.1 HI.out.2.2.2 rfl v14 _ _ rfl OW14.1 _ _ _ _ rfl (SrcD.next HB14) (by unfold maxLen; (try simp); (try omega)) (by (try simp); (try omega)) ?_;intro v15 w15 ho hg;have OW15:=OW14.app ho hg;have HBn:=OW15.2.1;clear ho hg;refine hK.out _ _ ?_ (fun hH'=>?_)
     ·(try dsimp only);exact d4_ HBn D0 D1 D2 D3 hz
     clear hK K hH;have hH:=hH';clear hH';have HB15:Below wr.drew.heap.size wr.drew (w15):=HBn;clear HBn;refine wLy ?_;refine wTk 12 ?_;refine wDn ?_;have O9:Hid (Own wr.drew w15 89 v15 _ _):=OW15;clear hH D0 D1 D2 D3;go_wp2
     all_goals go_ret
     all_goals exact ⟨_,rfl,zA_ O9.out.1 (by rw [<- HPT.out]; (try simp); (try omega)) (by rw [<- HPT.out]; simp [zz_,flat]),(Gro.of_below HB0.out).trans O9.out.gro⟩
section
variable {W W' W0 w:World} {a c r x y z:Int} {ao vo:Option Addr} {cap g i n n' ob vc:Nat} {l l2 m m':List Sib} {t:TypeId} {u u' v v':Value}
def OBx (W:World) (ob:Nat) (v:Value) (p q r:Int):Prop:=(W.cell? ⟨ob,0,none⟩=some v∧W.cell? ⟨ob,1,none⟩=some (.int .i64 p)∧W.cell? ⟨ob,2,none⟩=some (.int .i64 q)∧W.cell? ⟨ob,3,none⟩=some (.int .i64 r))∧zQ_ W ob 4∧ob < W.heap.size
theorem OBx.next {p q:Int} (h:OBx W ob v p q r) (hb:Below W.heap.size W W'):OBx W' ob v p q r:=
 ⟨⟨za_ hb h.1.1 h.2.2,za_ hb h.1.2.1 h.2.2,za_ hb h.1.2.2.1 h.2.2,za_ hb h.1.2.2.2 h.2.2⟩,h.2.1.next hb h.2.2,Nat.lt_of_lt_of_le h.2.2 hb.size⟩
theorem OBx.gro {p q:Int} (h:OBx W ob v p q r) (hg:Gro W W' u u') (hne:u.ownBlock≠some ob):OBx W' ob v p q r:=
 ⟨⟨hg.cell h.1.1 hne,hg.cell h.1.2.1 hne,hg.cell h.1.2.2.1 hne,hg.cell h.1.2.2.2 hne⟩,xC_ h.2.1 hg h.2.2 hne,Nat.lt_of_lt_of_le h.2.2 hg.size⟩
theorem OBx.set {p q:Int} (h:OBx W ob v p q r):OBx (W.setCell ⟨ob,0,none⟩ u) ob u p q r:=
 ⟨⟨zI_ h.1.1,zw_ h.1.2.1 (by omega),zw_ h.1.2.2.1 (by omega),zw_ h.1.2.2.2 (by omega)⟩,h.2.1.set,by simpa [World.setCell] using h.2.2⟩
structure JS (W0 W:World) (ob:Nat) (vo:Option Addr) (n vc:Nat) (p q r:Int) (m:List Sib):Prop where
 own:Own W0 W 89 (.slice vo n vc) n (flat m)
 len:n=m.length
 cap:n<=vc
 box:OBx W ob (.slice vo n vc) p q r
 ne:(Value.slice vo n vc).ownBlock≠some ob
 old:W0.heap.size<=ob
theorem JS.next {p q:Int} (h:JS W0 W ob vo n vc p q r m) (hb:Below W.heap.size W W'):JS W0 W' ob vo n vc p q r m:=⟨h.own.step hb,h.len,h.cap,h.box.next hb,h.ne,h.old⟩
theorem JS.put {p q:Int} (h:JS W0 W ob vo n vc p q r m) (hu:u=.slice vo n vc∨u=.slice none 0 0) (ho:W'.ownsRow 0 89 4 v' n' (flat m')) (hn:n'=m'.length) (hg:Gro W W' u v'):∃ vo' vc',v'=.slice vo' n' vc'∧JS W0 (W'.setCell ⟨ob,0,none⟩ v') ob vo' n' vc' p q r m':=by
 have hune:u.ownBlock≠some ob:=by
  rcases hu with rfl | rfl
  ·exact h.ne
  ·exact Gro.none_ne
 have huold:∀ k,u.ownBlock=some k->W0.heap.size<=k:=by
  rcases hu with rfl | rfl
  ·exact h.own.2.2
  ·exact fun k hk=>absurd hk Gro.none_ne
 have hvne:v'.ownBlock≠some ob:=hg.ne h.box.2.2 hune
 have hO:Own W0 W' 89 v' n' (flat m'):=by
  refine ⟨ho,h.own.2.1.trans (hg.below h.own.2.1.size huold),fun k hk=>?_⟩;rcases hg.fresh k hk with h' | h'
  ·exact huold k h'
  ·exact Nat.le_trans h.own.2.1.size h'
 obtain ⟨vo',vc',rfl,hc⟩:=hO.shape;refine ⟨vo',vc',rfl,⟨⟨ownsRow_setCell_other hO.1 hvne _,hO.2.1.setCell (by simpa using h.old) _,hO.2.2⟩,hn,hc,(h.box.gro hg hune).set,hvne,h.old⟩⟩
theorem JS.row {p q:Int} (h:JS W0 W ob vo n vc p q r m):zk_ W vo m:=by
 have hh:=h.own.1;rw [h.len] at hh;obtain ⟨o,c,e,hr,_⟩:=wf_ hh;cases e;exact hr
theorem sj_ (h:i < l.length) (hd:vT_ l2 l[i]=true∨decide (l[i].n<=comp x y z l[i].p)=false):stay x y z (l.take (i+1)) l2=stay x y z (l.take i) l2++[l[i]]:=by
 unfold stay;rw [List.take_succ_eq_append_getElem h,List.filter_append,List.filter_cons_of_pos (by rcases hd with h | h <;> simp [h]),List.filter_nil]
theorem rG_ (h:i < l.length) (hd:vT_ l2 l[i]=false) (he:decide (l[i].n<=comp x y z l[i].p)=true):stay x y z (l.take (i+1)) l2=stay x y z (l.take i) l2:=by
 unfold stay;rw [List.take_succ_eq_append_getElem h,List.filter_append,List.filter_cons_of_neg (by simp [hd,he]),List.filter_nil,List.append_nil]
theorem pe_ (x y z:Int) (l l2:List Sib) (i:Nat):(stay x y z (l.take i) l2).length<=i:=Nat.le_trans (List.length_filter_le _ _) (by simp; omega)
theorem vg_ {s:Sib}:vT_ l s=true↔HasD l s.p s.n:=vS_
def JB4 (g:Nat) (W:World) (v u:Value) (a b c x y z:Int):Prop:=wu_ W g v a b c∧wu_ W (g+1) u x y z∧zQ_ W (g+1+1) 4∧g+1+1 < W.heap.size
theorem JB4.next {b:Int} (h:JB4 g W v u a b c x y z) (hb:Below W.heap.size W W'):JB4 g W' v u a b c x y z:=
 ⟨yV_ h.1 hb (Nat.lt_trans (by omega) h.2.2.2),yV_ h.2.1 hb (Nat.lt_trans (by omega) h.2.2.2),h.2.2.1.next hb h.2.2.2,Nat.lt_of_lt_of_le h.2.2.2 hb.size⟩
theorem JB4.new {bo:Option Addr} {m cp:Nat} {b:Int}:JB4 w.heap.size (((w.alloc (.cells #[.slice ao n cap,.int .i64 a,.int .i64 b,.int .i64 c] t)).alloc (.cells #[.slice bo m cp,.int .i64 x,.int .i64 y,.int .i64 z] t)).alloc (.cells #[.slice none 0 0,.int .i64 0,.int .i64 0,.int .i64 0] t)) (.slice ao n cap) (.slice bo m cp) a b c x y z:=by
 refine ⟨⟨by go_simp,by go_simp,by go_simp,by go_simp⟩,⟨by go_simp,by go_simp,by go_simp,by go_simp⟩,fun j hj=>?_,by simp⟩;have hj':j=0∨j=1∨j=2∨j=3:=by omega
 rcases hj' with rfl | rfl | rfl | rfl <;> exact ⟨by go_simp,by go_simp⟩
theorem yZ_ (h:Hid (zk_ w ao l)) (hb:Hid (Below w.heap.size w W)):zk_ W ao l:=h.out.next hb.out
theorem r1_ (n cap:Nat) (ao:Option Addr) (l:List Sib) (x:Sib) (w:World) (hn:n=l.length) (hm:(l.length:Int)<=1048576) (hcap:n<=cap) (hr0:zk_ w ao l) :
  Calls Tryz.prog 152 #[.slice ao n cap,.agg #[.int .i64 x.p,.int .i64 x.n,.int .i64 x.v,.bool x.d]] w fun e w'=>∃ v',e=.returned v'∧w'.ownsRow 0 89 4 v' (pt x l).length (flat (pt x l))∧Gro w w' (.slice none 0 0) v':=by
 subst hn;exact op_ cap ao l x w hm hcap hr0
theorem tW_ (cap cp:Nat) (ao bo:Option Addr) (l l2:List Sib) (a b c x y z:Int) (w:World) (hm:(l.length:Int)<=100000) (hm2:(l2.length:Int)<=100000) (hn1:∀ i (h:i < l.length),0<=l[i].p∧l[i].p < 3) (hn2:∀ i (h:i < l2.length),0<=l2[i].p∧l2[i].p < 3) (hr0:zk_ w ao l) (hs0:zk_ w bo l2) :
  Calls Tryz.prog 130 #[.agg #[.slice ao l.length cap,.int .i64 a,.int .i64 b,.int .i64 c],.agg #[.slice bo l2.length cp,.int .i64 x,.int .i64 y,.int .i64 z]] w fun e w'=>∃ v,e=.returned (.agg #[v,.int .i64 (max a x),.int .i64 (max b y),.int .i64 (max c z)])∧Gro w w' (.slice none 0 0) v∧w'.ownsRow 0 89 4 v (sj a b c x y z l l2).length (flat (sj a b c x y z l l2)):=by
 have RA:Hid (zk_ (((w.alloc (.cells #[.slice ao l.length cap,.int .i64 a,.int .i64 b,.int .i64 c] 37)).alloc (.cells #[.slice bo l2.length cp,.int .i64 x,.int .i64 y,.int .i64 z] 37)).alloc (.cells #[.slice none 0 0,.int .i64 0,.int .i64 0,.int .i64 0] 37)) ao l):=zM_ (zM_ (zM_ hr0 (zb_ _ _)) (zb_ _ _)) (zb_ _ _);have RB:Hid (zk_ (((w.alloc (.cells #[.slice ao l.length cap,.int .i64 a,.int .i64 b,.int .i64 c] 37)).alloc (.cells #[.slice bo l2.length cp,.int .i64 x,.int .i64 y,.int .i64 z] 37)).alloc (.cells #[.slice none 0 0,.int .i64 0,.int .i64 0,.int .i64 0] 37)) bo l2):=zM_ (zM_ (zM_ hs0 (zb_ _ _)) (zb_ _ _)) (zb_ _ _);have JB1:Hid (JB4 w.heap.size (((w.alloc (.cells #[.slice ao l.length cap,.int .i64 a,.int .i64 b,.int .i64 c] 37)).alloc (.cells #[.slice bo l2.length cp,.int .i64 x,.int .i64 y,.int .i64 z] 37)).alloc (.cells #[.slice none 0 0,.int .i64 0,.int .i64 0,.int .i64 0] 37)) (.slice ao l.length cap) (.slice bo l2.length cp) a b c x y z):=JB4.new;have GW:Hid (Gro w (((w.alloc (.cells #[.slice ao l.length cap,.int .i64 a,.int .i64 b,.int .i64 c] 37)).alloc (.cells #[.slice bo l2.length cp,.int .i64 x,.int .i64 y,.int .i64 z] 37)).alloc (.cells #[.slice none 0 0,.int .i64 0,.int .i64 0,.int .i64 0] 37)) (.slice none 0 0) (.slice none 0 0)):=(Gro.of_below (zb_ _ _)).trans ((Gro.of_below (zb_ _ _)).trans (Gro.of_below (zb_ _ _)));have HN1:=hm_ hn1;have HN2:=hm_ hn2;have hzW:(((w.alloc (.cells #[.slice ao l.length cap,.int .i64 a,.int .i64 b,.int .i64 c] 37)).alloc (.cells #[.slice bo l2.length cp,.int .i64 x,.int .i64 y,.int .i64 z] 37)).alloc (.cells #[.slice none 0 0,.int .i64 0,.int .i64 0,.int .i64 0] 37)).heap.size=w.heap.size+3:=by simp
 clear hr0 hs0 hn1 hn2;obtain ⟨i0,hi,hz0,hz1,hz2⟩:=info_parts yG_;have HI:Hid (Tryz.prog.info? 89=some i0∧i0.zero=some (.agg #[.int .i64 0,.int .i64 0,.int .i64 0,.bool false])∧i0.size=4∧i0.bytes=32):=⟨hi,hz0,hz1,hz2⟩;clear hi hz0 hz1 hz2;go_enter Tryz.func130,Tryz.ntmps130;go_wp2_with fail;refine (sl_ a b c x y z (max a x) (max b y) (max c z) _ (by omega) (by omega) (by omega)).mono ?_;rintro e w2 ⟨rfl,hb⟩
 have O2:Own (((w.alloc (.cells #[.slice ao l.length cap,.int .i64 a,.int .i64 b,.int .i64 c] 37)).alloc (.cells #[.slice bo l2.length cp,.int .i64 x,.int .i64 y,.int .i64 z] 37)).alloc (.cells #[.slice none 0 0,.int .i64 0,.int .i64 0,.int .i64 0] 37)) w2 89 (.slice (some ⟨w.heap.size+1+1+1,0,none⟩) 0 0) 0 []:=by
  have:=(Own.lit (wr:=(((w.alloc (.cells #[.slice ao l.length cap,.int .i64 a,.int .i64 b,.int .i64 c] 37)).alloc (.cells #[.slice bo l2.length cp,.int .i64 x,.int .i64 y,.int .i64 z] 37)).alloc (.cells #[.slice none 0 0,.int .i64 0,.int .i64 0,.int .i64 0] 37))) (e:=89) (Below.refl _ _)).step hb
  simpa using this
 have hz2:=hb.size;simp at hz2
 have J2:Hid (JS (((w.alloc (.cells #[.slice ao l.length cap,.int .i64 a,.int .i64 b,.int .i64 c] 37)).alloc (.cells #[.slice bo l2.length cp,.int .i64 x,.int .i64 y,.int .i64 z] 37)).alloc (.cells #[.slice none 0 0,.int .i64 0,.int .i64 0,.int .i64 0] 37)) (w2.alloc (.cells #[.slice (some ⟨w.heap.size+1+1+1,0,none⟩) 0 0,.int .i64 (max a x),.int .i64 (max b y),.int .i64 (max c z)] 37)) w2.heap.size (some ⟨w.heap.size+1+1+1,0,none⟩) 0 0 (max a x) (max b y) (max c z) []):=by
  refine ⟨O2.step (zb_ _ _),rfl,Nat.le_refl _,⟨⟨by go_simp,by go_simp,by go_simp,by go_simp⟩,fun j hj=>?_,by simp⟩,fun e=>by simp [Value.ownBlock] at e; omega,by simp; omega⟩;have hj':j=0∨j=1∨j=2∨j=3:=by omega
  rcases hj' with rfl | rfl | rfl | rfl <;> exact ⟨by go_simp,by go_simp⟩
 clear hb O2 hz2;have HZW:Hid (_=w.heap.size+3):=hzW;clear hzW;go_wp2;generalize (w2.alloc (.cells #[.slice (some ⟨w.heap.size+1+1+1,0,none⟩) 0 0,.int .i64 (max a x),.int .i64 (max b y),.int .i64 (max c z)] 37))=W1 at *;generalize w2.heap.size=ob at *;clear w2;generalize (((w.alloc (.cells #[.slice ao l.length cap,.int .i64 a,.int .i64 b,.int .i64 c] 37)).alloc (.cells #[.slice bo l2.length cp,.int .i64 x,.int .i64 y,.int .i64 z] 37)).alloc (.cells #[.slice none 0 0,.int .i64 0,.int .i64 0,.int .i64 0] 37))=W0 at *;go_loopw [6] (fun s6 wr=>∃ (i:Nat) (vo:Option Addr) (n vc:Nat) (m:List Sib),i<=l.length∧s6=.int .i64 i∧m=stay x y z (l.take i) l2∧JS W0 wr ob vo n vc (max a x) (max b y) (max c z) m) (fun s6 _=>l.length - (intOf s6).toNat)
 case atStart=>exact ⟨0,_,_,_,[],by omega,rfl,by simp [stay],J2.out⟩
 case round=>
  obtain ⟨i,vo,n,vc,m,hil,rfl,hM0,hJ0⟩:=hrel;have hM:=hm_ hM0;have hN:Hid (m.length<=i):=by show _<=_; rw [hM0]; exact pe_ x y z l l2 i
  clear hM0;have hJ:=hm_ hJ0;have hL:Hid (n=m.length):=hJ0.len;have hb0:=hm_ hJ0.own.2.1;obtain ⟨⟨ca0,ca1,ca2,ca3⟩,⟨cb0,cb1,cb2,cb3⟩,_,hz⟩:=JB1.out.next hb0.out;clear hJ0;by_cases hkl:i < l.length
  ·have hkl':(i:Int) < (l.length:Int):=by omega
   have kk:(0:Int)<=(i:Int):=by omega
   rcases yZ_ RA hb0 with h' | ⟨p,off,rfl,h2⟩
   ·rw [h'] at hkl; simp at hkl
   obtain ⟨x0,x1,x2,x3⟩:=h2 i hkl;obtain ⟨nd0,nd3⟩:=HN1.out i hkl;clear h2;have E0:∀ o,(wr.alloc o).cell? ⟨w.heap.size+1,0,none⟩=_:=fun o=>zj_ cb0 (by omega)
   have E1:∀ o,(wr.alloc o).cell? ⟨w.heap.size+1,1,none⟩=_:=fun o=>zj_ cb1 (by omega)
   have E2:∀ o,(wr.alloc o).cell? ⟨w.heap.size+1,2,none⟩=_:=fun o=>zj_ cb2 (by omega)
   have E3:∀ o,(wr.alloc o).cell? ⟨w.heap.size+1,3,none⟩=_:=fun o=>zj_ cb3 (by omega)
   clear cb0 cb1 cb2 cb3 ca1 ca2 ca3;go_wp2_with fail;refine (sU_ cp bo l2 x y z l[i].p l[i].n _ (by omega) (zM_ (yZ_ RB hb0) (zb_ _ _)).out).mono ?_;rintro e w3 ⟨k,rfl,hK1,hK2,hb⟩;have D0:=za_ hb (b:=wr.heap.size) (o:=0) (v:=.int .i64 l[i].p) (by go_simp) (by simp);have D1:=za_ hb (b:=wr.heap.size) (o:=1) (v:=.int .i64 l[i].n) (by go_simp) (by simp);have D2:=za_ hb (b:=wr.heap.size) (o:=2) (v:=.int .i64 l[i].v) (by go_simp) (by simp);have D3:=za_ hb (b:=wr.heap.size) (o:=3) (v:=.bool l[i].d) (by go_simp) (by simp);have hb3:Hid (Below wr.heap.size wr w3):=(zb_ _ _).trans (hb.mono (by simp));have JX:Hid (JS W0 w3 ob vo n vc (max a x) (max b y) (max c z) m):=hJ.out.next hb3.out;have hbW:Hid (Below W0.heap.size W0 w3):=ze_ hb0 hb3.out;clear hb E0 E1 E2 E3 x0 x1 x2 x3 ca0 hz hb3;by_cases hy:HasD l2 l[i].p l[i].n
   ·have k0:=hK1.out hy;have HM':Hid (m++[l[i]]=stay x y z (l.take (i+1)) l2):=by show _=_; rw [hM.out]; exact (sj_ hkl (.inl (vg_.2 hy))).symm
    clear hK1 hK2 hy;have hB9:=JX.out.box;obtain ⟨⟨o0,o1,o2,o3⟩,hT9,hz9⟩:=hB9;have hf9:=(hT9 0 (by omega)).2;clear o1 o2 o3 hT9;go_wp2_with (first | (at_builtin; refine yg_ rfl _ _ 33 rfl 89 i0 (.agg #[.int .i64 0,.int .i64 0,.int .i64 0,.bool false]) 32 Tryz.underlying33 HI.out.1 HI.out.2.1 HI.out.2.2.1 HI.out.2.2.2 rfl (.slice vo n vc) n _ rfl (JX.out.next (zb_ _ _)).own.1 _ _ _ [l[i]] rfl z7_ ?c3 ?c4 ?_) | go_in)
    case c3=>have:=hL.out; have:=hN.out; unfold maxLen; omega
    case c4=>have:=hL.out; have:=hN.out; omega
    intro v' w6 ho6 hg6;obtain ⟨vo',vc',rfl,hJ6⟩:=(JX.out.next (zb_ _ _)).put (m':=m++[l[i]]) (.inl rfl) (zA_ ho6 rfl (by rw [zz_])) (by have:=hL.out; simp; omega) hg6;have o6:=hg6.cell (zj_ o0 hz9) JX.out.ne;have f6:=(xC_ ((JX.out.next (zb_ _ _)).box.2.1) hg6 ((JX.out.next (zb_ _ _)).box.2.2) JX.out.ne 0 (by omega)).2;have J6:Hid _:=hJ6;clear ho6 hg6 hJ6 o0 hf9;go_wp2
    go_roundw
    case rel=>first | exact ⟨i+1,_,_,_,m++[l[i]],by omega,by go_num,HM'.out,J6.out⟩ | ((repeat apply Exists.intro); exact ⟨⟨i+1,_,_,_,m++[l[i]],by omega,by go_num,HM'.out,J6.out⟩,rfl⟩)
    case measure=>simp [intOf]; omega
   ·obtain rfl:=hK2.out hy;obtain ⟨_,⟨cb0,cb1,cb2,cb3⟩,_,hz⟩:=JB1.out.next hbW.out;clear cb0;go_wp2_with fail;refine (yk_ x y z l[i].p l[i].n _ nd0 nd3).mono ?_;rintro e w4 ⟨rfl,hb⟩;replace D0:=za_ hb D0 (zh_ (x:=⟨wr.heap.size,0,none⟩) D0);replace D1:=za_ hb D1 (zh_ (x:=⟨wr.heap.size,1,none⟩) D1);replace D2:=za_ hb D2 (zh_ (x:=⟨wr.heap.size,2,none⟩) D2);replace D3:=za_ hb D3 (zh_ (x:=⟨wr.heap.size,3,none⟩) D3);replace JX:=hm_ (JX.out.next hb);clear hb cb1 cb2 cb3 hz hbW;cases hd:decide (l[i].n<=comp x y z l[i].p)
    ·have HM':Hid (m++[l[i]]=stay x y z (l.take (i+1)) l2):=by show _=_; rw [hM.out]; exact (sj_ hkl (.inr hd)).symm
     clear hK1 hK2;have hB9:=JX.out.box;obtain ⟨⟨o0,o1,o2,o3⟩,hT9,hz9⟩:=hB9;have hf9:=(hT9 0 (by omega)).2;clear o1 o2 o3 hT9;go_wp2_with (first | (at_builtin; refine yg_ rfl _ _ 33 rfl 89 i0 (.agg #[.int .i64 0,.int .i64 0,.int .i64 0,.bool false]) 32 Tryz.underlying33 HI.out.1 HI.out.2.1 HI.out.2.2.1 HI.out.2.2.2 rfl (.slice vo n vc) n _ rfl (JX.out.next (zb_ _ _)).own.1 _ _ _ [l[i]] rfl z7_ ?c3 ?c4 ?_) | go_in)
     case c3=>have:=hL.out; have:=hN.out; unfold maxLen; omega
     case c4=>have:=hL.out; have:=hN.out; omega
     intro v' w6 ho6 hg6;obtain ⟨vo',vc',rfl,hJ6⟩:=(JX.out.next (zb_ _ _)).put (m':=m++[l[i]]) (.inl rfl) (zA_ ho6 rfl (by rw [zz_])) (by have:=hL.out; simp; omega) hg6;have o6:=hg6.cell (zj_ o0 hz9) JX.out.ne;have f6:=(xC_ ((JX.out.next (zb_ _ _)).box.2.1) hg6 ((JX.out.next (zb_ _ _)).box.2.2) JX.out.ne 0 (by omega)).2;have J6:Hid _:=hJ6;clear ho6 hg6 hJ6 o0 hf9;go_wp2
     go_roundw
     case rel=>first | exact ⟨i+1,_,_,_,m++[l[i]],by omega,by go_num,HM'.out,J6.out⟩ | ((repeat apply Exists.intro); exact ⟨⟨i+1,_,_,_,m++[l[i]],by omega,by go_num,HM'.out,J6.out⟩,rfl⟩)
     case measure=>simp [intOf]; omega
    ·have HM':Hid (m=stay x y z (l.take (i+1)) l2):=by show _=_; rw [hM.out]; exact (rG_ hkl (by rw [Bool.eq_false_iff]; exact fun h=>hy (vg_.1 h)) hd).symm
     clear hK1 hK2 hy D0 D1 D2 D3;go_wp2
     go_roundw
     case rel=>first | exact ⟨i+1,_,_,_,m,by omega,by go_num,HM'.out,JX.out⟩ | ((repeat apply Exists.intro); exact ⟨⟨i+1,_,_,_,m,by omega,by go_num,HM'.out,JX.out⟩,rfl⟩)
     case measure=>simp [intOf]; omega
  ·have hkl':¬ (i:Int) < (l.length:Int):=by omega
   have hM1:Hid (m=stay x y z l l2):=by have:=hM.out; rw [List.take_of_length_le (by omega)] at this; exact this
   have hS0:Hid (m.length<=l.length):=by have:=hN.out; show _<=_; omega
   clear ca1 ca2 ca3 cb0 cb1 cb2 cb3 J2 hM hN hb0 hL;go_wp2;go_loopw [8] (fun s8 wr=>∃ (i:Nat) (vo:Option Addr) (n vc:Nat) (m:List Sib),i<=l2.length∧s8=.int .i64 i∧m=pts (stay x y z l l2) (fil a b c (l2.take i))∧JS W0 wr ob vo n vc (max a x) (max b y) (max c z) m) (fun s8 _=>l2.length - (intOf s8).toNat)
   case atStart=>exact ⟨0,_,_,_,m,by omega,rfl,by rw [hM1.out]; simp [fil,pts],hJ.out⟩
   case round=>
    clear hJ ca0 hz;have hS1:Hid ((stay x y z l l2).length<=l.length):=by have h1:=hM1.out; have h2:=hS0.out; rw [h1] at h2; exact h2
    clear hM1 hS0;obtain ⟨i,vo,n,vc,m,hil2,rfl,hM0,hJ0⟩:=hrel;have hM:=hm_ hM0
    have hN:Hid (m.length<=l.length+i):=by
     show _<=_
     rw [hM0,tQ_];have h1:=qE_ a b c l2 i;have h2:=hS1.out;omega
    clear hM0;have hJ:=hm_ hJ0;have hL:Hid (n=m.length):=hJ0.len;have hb0:=hm_ hJ0.own.2.1;obtain ⟨⟨ca0,ca1,ca2,ca3⟩,⟨cb0,cb1,cb2,cb3⟩,_,hz⟩:=JB1.out.next hb0.out;clear hJ0;by_cases hkl2:i < l2.length
    ·have hkl2':(i:Int) < (l2.length:Int):=by omega
     have kk:(0:Int)<=(i:Int):=by omega
     rcases yZ_ RB hb0 with h' | ⟨p,off,rfl,h2⟩
     ·rw [h'] at hkl2; simp at hkl2
     obtain ⟨x0,x1,x2,x3⟩:=h2 i hkl2;obtain ⟨nd0,nd3⟩:=HN2.out i hkl2;clear h2;have E0:∀ o,(wr.alloc o).cell? ⟨w.heap.size,0,none⟩=_:=fun o=>zj_ ca0 (by omega)
     have E1:∀ o,(wr.alloc o).cell? ⟨w.heap.size,1,none⟩=_:=fun o=>zj_ ca1 (by omega)
     have E2:∀ o,(wr.alloc o).cell? ⟨w.heap.size,2,none⟩=_:=fun o=>zj_ ca2 (by omega)
     have E3:∀ o,(wr.alloc o).cell? ⟨w.heap.size,3,none⟩=_:=fun o=>zj_ ca3 (by omega)
     clear cb1 cb2 cb3 ca0 ca1 ca2 ca3;go_wp2_with fail;refine (yk_ a b c l2[i].p l2[i].n _ nd0 nd3).mono ?_;rintro e w3 ⟨rfl,hb⟩;have D0:=za_ hb (b:=wr.heap.size) (o:=0) (v:=.int .i64 l2[i].p) (by go_simp) (by simp);have D1:=za_ hb (b:=wr.heap.size) (o:=1) (v:=.int .i64 l2[i].n) (by go_simp) (by simp);have D2:=za_ hb (b:=wr.heap.size) (o:=2) (v:=.int .i64 l2[i].v) (by go_simp) (by simp);have D3:=za_ hb (b:=wr.heap.size) (o:=3) (v:=.bool l2[i].d) (by go_simp) (by simp);have JX:Hid (JS W0 w3 ob vo n vc (max a x) (max b y) (max c z) m):=hJ.out.next ((zb_ _ _).trans (hb.mono (by simp)));clear hb E0 E1 E2 E3 x0 x1 x2 x3 cb0 hz hJ;cases hd:decide (l2[i].n<=comp a b c l2[i].p)
     ·have HM':Hid (pt l2[i] m=pts (stay x y z l l2) (fil a b c (l2.take (i+1)))):=by show _=_; rw [uv_ hkl2 hd,rd_,hM.out]
      have HL':Hid ((pt l2[i] m).length=(pt l2[i] m).length):=rfl;have hB9:=JX.out.box;obtain ⟨⟨o0,o1,o2,o3⟩,hT9,hz9⟩:=hB9;clear o1 o2 o3 hT9;go_wp2_with fail;refine (r1_ n vc vo m l2[i] _ hL.out (by have:=hN.out; omega) JX.out.cap JX.out.row).mono ?_;rintro e w6 ⟨v',rfl,ho6,hg6⟩;obtain ⟨vo',vc',rfl,hJ6⟩:=JX.out.put (m':=pt l2[i] m) (.inr rfl) ho6 rfl hg6;have o6:=hg6.cell o0 Gro.none_ne;have f6:=(xC_ JX.out.box.2.1 hg6 JX.out.box.2.2 Gro.none_ne 0 (by omega)).2;have J6:Hid _:=hJ6;clear ho6 hg6 hJ6 o0 hd D0 D1 D2 D3;go_wp2
      go_roundw
      case rel=>first | exact ⟨i+1,_,_,_,pt l2[i] m,by omega,by go_num,HM'.out,J6.out⟩ | ((repeat apply Exists.intro); exact ⟨⟨i+1,_,_,_,pt l2[i] m,by omega,by go_num,HM'.out,J6.out⟩,rfl⟩)
      case measure=>simp [intOf]; omega
     ·have HM':Hid (m=pts (stay x y z l l2) (fil a b c (l2.take (i+1)))):=by show _=_; rw [uu_ hkl2 hd]; exact hM.out
      clear hd D0 D1 D2 D3;go_wp2
      go_roundw
      case rel=>first | exact ⟨i+1,_,_,_,m,by omega,by go_num,HM'.out,JX.out⟩ | ((repeat apply Exists.intro); exact ⟨⟨i+1,_,_,_,m,by omega,by go_num,HM'.out,JX.out⟩,rfl⟩)
      case measure=>simp [intOf]; omega
    ·have hkl2':¬ (i:Int) < (l2.length:Int):=by omega
     have hM1:Hid (m=sj a b c x y z l l2):=by have:=hM.out; rw [List.take_of_length_le (by omega)] at this; exact this
     obtain ⟨⟨o0,o1,o2,o3⟩,hT9,hz9⟩:=hJ.out.box;obtain ⟨_,_,hTr,_⟩:=JB1.out.next hb0.out;obtain ⟨t0,T0⟩:=isx (hTr 0 (by omega)).1;obtain ⟨t1,T1⟩:=isx (hTr 1 (by omega)).1;obtain ⟨t2,T2⟩:=isx (hTr 2 (by omega)).1;obtain ⟨t3,T3⟩:=isx (hTr 3 (by omega)).1;have Z0:=(hTr 0 (by omega)).2;have Z1:=(hTr 1 (by omega)).2;have Z2:=(hTr 2 (by omega)).2;have Z3:=(hTr 3 (by omega)).2;have O5:=hm_ hJ.out.own.1;have G5:=hm_ hJ.out.own.gro;clear hTr hT9 hz9 ca1 ca2 ca3 cb1 cb2 cb3 ca0;go_wp2;refine bodyPost_ret (v:=.agg #[.slice vo n vc,.int .i64 (max a x),.int .i64 (max b y),.int .i64 (max c z)]) (by simp [results,Tryz.results130,go_sem,T0,T1,T2,T3,Z0,Z1,Z2,Z3]) rfl ⟨_,rfl,?_,?_⟩
     ·exact Gro.set4 (GW.out.trans G5.out) (by omega)
     ·have hne:(Value.slice vo n vc).ownBlock≠some (w.heap.size+1+1):=nb G5.out JB1.out.2.2.2;exact zA_ (ownsRow_setCell_other (ownsRow_setCell_other (ownsRow_setCell_other (ownsRow_setCell_other O5.out hne _) hne _) hne _) hne _) (by rw [<- hM1.out]; exact hL.out) (by rw [hM1.out])
end
section
variable {a c:Int} {l:List Sib}
theorem rX_:∀ {l:List Sib},(∀ i (h:i+1 < l.length),Bef l[i] l[i+1])->Rise l
 | [],_=>by simp [Rise]
 | [s],_=>by simp [Rise]
 | s :: t :: l,h=>by
  have h1:Rise (t :: l):=rX_ (fun i hi=>by have:=h (i+1) (by simpa using hi); simpa using this);have h0:=h 0 (by simp);refine List.pairwise_cons.2 ⟨fun u hu=>?_,h1⟩;rcases List.mem_cons.1 hu with e | e
  ·subst e; simpa using h0
  ·exact Bef.trans (by simpa using h0) (h1.head u e)
theorem sw_ {b:Int} (h:OkP l a b c):∀ s ∈ l,s.n<=comp a b c s.p:=fun s hs=>by
 obtain ⟨i,hi,rfl⟩:=List.mem_iff_getElem.1 hs;exact of_decide_eq_true (h.2.2 i hi).2.1
theorem v8_ {b:Int} (h:OkP l a b c):Rise l:=rX_ (fun i hi=>wT_.1 (by have:=(h.2.2 (i+1) hi).2.2 (by omega); simpa using this))
theorem wg_ {b:Int} (h:OkP l a b c):∀ i (hi:i < l.length),0<=l[i].p∧l[i].p < 3:=fun i hi=>v2_ (h.2.2 i hi).1
theorem qz_ (cap cp:Nat) (ao bo:Option Addr) (l l2:List Sib) (a b c x y z:Int) (w:World) (hO:OkP l a b c) (hP:OkP l2 x y z) (hc2:l2.length<=cp) (hr0:zk_ w ao l) (hs0:zk_ w bo l2) :
  Calls Tryz.prog 70 #[.agg #[.slice ao l.length cap,.int .i64 a,.int .i64 b,.int .i64 c],.agg #[.slice bo l2.length cp,.int .i64 x,.int .i64 y,.int .i64 z]] w fun e w'=>∃ v,e=.returned (.agg #[v,.int .i64 (max a x),.int .i64 (max b y),.int .i64 (max c z)])∧Gro w w' (.slice none 0 0) v∧w'.ownsRow 0 89 4 v (sj a b c x y z l l2).length (flat (sj a b c x y z l l2)):=by
 have e:=nE_ (a:=a) (b:=b) (c:=c) (x:=x) (y:=y) (z:=z) (v8_ hO) (v8_ hP) (sw_ hO)
 have:=vO_ cap cp ao bo l l2 a b c x y z w (by have:=hO.1; omega) (by have:=hP.1; omega) hc2 (wg_ hO) (wg_ hP) hr0 hs0
 rw [e] at this;exact this
theorem vK_ (cap cp:Nat) (ao bo:Option Addr) (l l2:List Sib) (a b c x y z:Int) (w:World) (hO:OkP l a b c) (hP:OkP l2 x y z) (hc2:l2.length<=cp) (hr0:zk_ w ao l) (hs0:zk_ w bo l2) :
  Calls Tryz.prog 130 #[.agg #[.slice ao l.length cap,.int .i64 a,.int .i64 b,.int .i64 c],.agg #[.slice bo l2.length cp,.int .i64 x,.int .i64 y,.int .i64 z]] w fun e w'=>∃ v,e=.returned (.agg #[v,.int .i64 (max a x),.int .i64 (max b y),.int .i64 (max c z)])∧Gro w w' (.slice none 0 0) v∧w'.ownsRow 0 89 4 v (sj a b c x y z l l2).length (flat (sj a b c x y z l l2)):=tW_ cap cp ao bo l l2 a b c x y z w (by have:=hO.1; omega) (by have:=hP.1; omega) (wg_ hO) (wg_ hP) hr0 hs0
end
theorem nl_ (a b c x y z:Int) (l l2:List Sib):(sj a b c x y z l l2).length<=l.length+l2.length:=by
 unfold sj;rw [tQ_];have h1:(stay x y z l l2).length<=l.length:=List.length_filter_le _ _;have h2:(fil a b c l2).length<=l2.length:=List.length_filter_le _ _;omega
def CR (k0 k1:Bool) (l l2:List Sib) (a b c x y z:Int) (r:Bool) (code:Int):Prop:=
 (¬ (k0=true∧k1=true)->r=false∧code=1)∧(k0=true->k1=true->code=0∧(r=true↔Same (sj a b c x y z l l2) l (max a x) (max b y) (max c z) a b c))
theorem x2_ (cap cp:Nat) (ao bo:Option Addr) (l l2:List Sib) (a b c x y z:Int) (k0 k1:Bool) (hO:Hid (k0=true↔OkP l a b c)) (hP:Hid (k1=true↔OkP l2 x y z)) (r:Bool) (code:Int) (hJ:Hid (CR k0 k1 l l2 a b c x y z r code)) (w:World) (hm:(l.length:Int)<=1048576) (hm2:(l2.length:Int)<=1048576) (hc2:l2.length<=cp) (hr0:zk_ w ao l) (hs0:zk_ w bo l2) :
  Calls Tryz.prog 27 #[.agg #[.slice ao l.length cap,.int .i64 a,.int .i64 b,.int .i64 c],.agg #[.slice bo l2.length cp,.int .i64 x,.int .i64 y,.int .i64 z]] w fun e w'=>e=.returned (.tuple #[.bool r,.int .i64 code])∧Below w.heap.size w w':=by
 have RW:Hid (zk_ w ao l):=hr0;have SW:Hid (zk_ w bo l2):=hs0;clear hr0 hs0;have HB0:Hid (Below w.heap.size w ((w.alloc (.cells #[.slice ao l.length cap,.int .i64 a,.int .i64 b,.int .i64 c] 37)).alloc (.cells #[.slice bo l2.length cp,.int .i64 x,.int .i64 y,.int .i64 z] 37))):=(zb_ _ _).trans ((zb_ _ _).mono (by simp));have BA0:Hid (wu_ ((w.alloc (.cells #[.slice ao l.length cap,.int .i64 a,.int .i64 b,.int .i64 c] 37)).alloc (.cells #[.slice bo l2.length cp,.int .i64 x,.int .i64 y,.int .i64 z] 37)) w.heap.size (.slice ao l.length cap) a b c):=⟨by go_simp,by go_simp,by go_simp,by go_simp⟩;have BB0:Hid (wu_ ((w.alloc (.cells #[.slice ao l.length cap,.int .i64 a,.int .i64 b,.int .i64 c] 37)).alloc (.cells #[.slice bo l2.length cp,.int .i64 x,.int .i64 y,.int .i64 z] 37)) (w.heap.size+1) (.slice bo l2.length cp) x y z):=⟨by go_simp,by go_simp,by go_simp,by go_simp⟩;have LA0:Hid (w.heap.size < ((w.alloc (.cells #[.slice ao l.length cap,.int .i64 a,.int .i64 b,.int .i64 c] 37)).alloc (.cells #[.slice bo l2.length cp,.int .i64 x,.int .i64 y,.int .i64 z] 37)).heap.size):=by show _ < _; simp; omega
 have LB0:Hid (w.heap.size+1 < ((w.alloc (.cells #[.slice ao l.length cap,.int .i64 a,.int .i64 b,.int .i64 c] 37)).alloc (.cells #[.slice bo l2.length cp,.int .i64 x,.int .i64 y,.int .i64 z] 37)).heap.size):=by show _ < _; simp
 go_enter Tryz.func27,Tryz.ntmps27;go_wp2_with fail;generalize ((w.alloc (.cells #[.slice ao l.length cap,.int .i64 a,.int .i64 b,.int .i64 c] 37)).alloc (.cells #[.slice bo l2.length cp,.int .i64 x,.int .i64 y,.int .i64 z] 37))=W0 at *;refine (yJ_ cap ao l a b c k0 hO _ hm (RW.out.next HB0.out)).mono ?_;rintro e w1 ⟨rfl,hb⟩;replace HB0:=ze_ HB0 hb;replace BA0:=yV_ BA0 hb LA0;replace BB0:=yV_ BB0 hb LB0;replace LA0:=zZ_ LA0 hb;replace LB0:=zZ_ LB0 hb;obtain ⟨cb0,cb1,cb2,cb3⟩:=BB0.out;clear hb;cases k0
 ·obtain ⟨rfl,rfl⟩:=hJ.out.1 (fun h=>by cases h.1);go_wp2;go_ret2;exact ⟨rfl,HB0.out⟩
 have HOK:Hid (OkP l a b c):=hO.out.1 rfl;clear hO;go_wp2_with fail;refine (yJ_ cp bo l2 x y z k1 hP _ hm2 (SW.out.next HB0.out)).mono ?_;rintro e w2 ⟨rfl,hb⟩;have HB2:=ze_ HB0 hb;replace BA0:=yV_ BA0 hb LA0;replace BB0:=yV_ BB0 hb LB0;replace LB0:=zZ_ LB0 hb;clear cb0 cb1 cb2 cb3 hb HB0 LA0;cases k1
 ·obtain ⟨rfl,rfl⟩:=hJ.out.1 (fun h=>by cases h.2);go_wp2;go_ret2;exact ⟨rfl,HB2.out⟩
 have HPK:Hid (OkP l2 x y z):=hP.out.1 rfl;obtain ⟨rfl,HR0⟩:=hJ.out.2 rfl rfl;have HR:=hm_ HR0
 have HSL:((sj a b c x y z l l2).length:Int)<=1048576:=by
  have h1:=nl_ a b c x y z l l2;have h2:=HOK.out.1;have h3:=HPK.out.1;omega
 obtain ⟨ca0,ca1,ca2,ca3⟩:=BA0.out;obtain ⟨cc0,cc1,cc2,cc3⟩:=BB0.out;have hz2:=LB0.out;clear hP hJ HR0 BA0 BB0 LB0;go_wp2;refine wp_region_held_drew (S:=(fun w'=>(w'.cell? ⟨w.heap.size,0,none⟩=some (.slice ao l.length cap)∧w'.cell? ⟨w.heap.size,1,none⟩=some (.int .i64 a)∧w'.cell? ⟨w.heap.size,2,none⟩=some (.int .i64 b)∧w'.cell? ⟨w.heap.size,3,none⟩=some (.int .i64 c))∧(w'.cell? ⟨w.heap.size+1,0,none⟩=some (.slice bo l2.length cp)∧w'.cell? ⟨w.heap.size+1,1,none⟩=some (.int .i64 x)∧w'.cell? ⟨w.heap.size+1,2,none⟩=some (.int .i64 y)∧w'.cell? ⟨w.heap.size+1,3,none⟩=some (.int .i64 z))∧w.heap.size+1 < w'.heap.size∧Below w.heap.size w w')) (by kernel_rfl) ?_ (fun hH=>?_)
 ·(try dsimp only);exact ⟨⟨ca0,ca1,ca2,ca3⟩,⟨cc0,cc1,cc2,cc3⟩,hz2,(ze_ HB2 (zd_ _)).out⟩
 refine wTk 0 ?_;refine wTk 1 ?_;refine wTk 3 ?_;refine wRd 2 (fun K hK=>?_);go_simp
 (go_at_call 70; refine (qz_ cap cp ao bo l l2 a b c x y z _ HOK.out HPK.out hc2 (RW.out.next hH.2.2.2) (SW.out.next hH.2.2.2)).mono ?_; rintro e w4 ⟨v,rfl,hg,ho⟩; obtain ⟨vo,vc,rfl,hrow,_⟩:=wf_ ho; have hb:=hg.below (Nat.le_refl _) (fun k hk=>absurd hk Gro.none_ne); have R4:Hid (zk_ w4 vo (sj a b c x y z l l2)):=hrow)
 (try simp only []);refine hK.out _ _ ?_ (fun hH'=>?_)
 ·(try dsimp only);exact ⟨yV_ hH.1 hb (Nat.lt_trans (by omega) hH.2.2.1),yV_ hH.2.1 hb hH.2.2.1,Nat.lt_of_lt_of_le hH.2.2.1 hb.size,ze_ hH.2.2.2 hb⟩
 clear hK K hH;have hH:=hH';clear hH';clear hb ho hg hrow;refine wLy ?_;refine wRd 4 (fun K hK=>?_);go_simp
 (go_at_call 69; refine (y2_ vc cap vo ao (sj a b c x y z l l2) l (max a x) (max b y) (max c z) a b c r HR _ HSL hm R4.out (RW.out.next hH.2.2.2)).mono ?_; rintro e w5 ⟨rfl,hb⟩)
 (try simp only []);refine hK.out _ _ ?_ (fun hH'=>?_)
 ·(try dsimp only);exact ⟨yV_ hH.1 hb (Nat.lt_trans (by omega) hH.2.2.1),yV_ hH.2.1 hb hH.2.2.1,Nat.lt_of_lt_of_le hH.2.2.1 hb.size,ze_ hH.2.2.2 hb⟩
 clear hK K hH;have hH:=hH';clear hH';clear hb;refine wLy ?_;refine wTk 5 ?_;refine wTk 6 ?_;refine wDn ?_;have HB5:=hm_ hH.2.2.2;clear hH ca0 ca1 ca2 ca3 cc0 cc1 cc2 cc3 R4 HR HSL;go_wp2;go_ret2;exact ⟨rfl,HB5.out⟩
end Go.Proofs.YtijcjhcgpmnchaaGreatDoor
