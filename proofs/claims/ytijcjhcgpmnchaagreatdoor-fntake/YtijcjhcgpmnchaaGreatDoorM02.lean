/- Nodes, part 2 of the law FnTake. -/
import Derived.Test.YtijcjhcgpmnchaaGreatDoorM01
import Derived.Laws.OwnMore
namespace Go.Proofs.YtijcjhcgpmnchaaGreatDoor
open Go.RowKit
set_option maxRecDepth 100000
set_option maxHeartbeats 16000000
set_option linter.unusedSimpArgs false
set_option linter.unusedVariables false
section
variable {b base e off:Nat} {l:List Sib} {v:Value} {w:World}
def flat:List Sib->List Value
 | []=>[]
 | s :: l=>.int .i64 s.p :: .int .i64 s.n :: .int .i64 s.v :: .bool s.d :: flat l
theorem x7_ (l:List Sib):(flat l).length=l.length * 4:=by
 induction l with
 | nil=>rfl
 | cons s l ih=>simp [flat,ih]; omega
theorem zz_ (l m:List Sib):flat (l++m)=flat l++flat m:=by
 induction l with
 | nil=>rfl
 | cons s l ih=>simp [flat,ih]
theorem wq_ (l:List Sib):∀ u ∈ flat l,u.oneCell'=true:=by
 induction l with
 | nil=>intro u hu; simp [flat] at hu
 | cons s l ih=>
  intro u hu;simp only [flat,List.mem_cons] at hu;rcases hu with rfl | rfl | rfl | rfl | hu
  ·rfl
  ·rfl
  ·rfl
  ·rfl
  ·exact ih u hu
theorem sc_ (l:List Sib):∀ i (h:i < l.length),(flat l)[i * 4]? = some (.int .i64 l[i].p)∧(flat l)[i * 4+1]? = some (.int .i64 l[i].n)∧(flat l)[i * 4+2]? = some (.int .i64 l[i].v)∧(flat l)[i * 4+3]? = some (.bool l[i].d):=by
 induction l with
 | nil=>intro i h; simp at h
 | cons s l ih=>
  intro i h;cases i with
  | zero=>simp [flat]
  | succ i=>
   have:=ih i (by simpa using h)
   have e:(i+1) * 4=i * 4+4:=by omega
   rw [e]
   simpa [flat] using this
theorem vV_:∀ {l:List Sib} {o:Nat},o=off->(∀ i (h:i < l.length),x9_ w b (o+i * 4) l[i])->∀ j u,(flat l)[j]? = some u->w.cell? ⟨b,o+j,none⟩=some u:=by
 intro l o ho h j u hu
 have hj:j < (flat l).length:=by
  rcases Nat.lt_or_ge j (flat l).length with q | q
  ·exact q
  ·rw [List.getElem?_eq_none q] at hu; cases hu
 rw [x7_] at hj;have hi:j / 4 < l.length:=by omega
 obtain ⟨a0,a1,a2,a3⟩:=h (j / 4) hi;obtain ⟨f0,f1,f2,f3⟩:=sc_ l (j / 4) hi;have cs:j=j / 4 * 4∨j=j / 4 * 4+1∨j=j / 4 * 4+2∨j=j / 4 * 4+3:=by omega
 generalize j / 4=i at *;rcases cs with rfl | rfl | rfl | rfl
 ·rw [f0] at hu; cases hu; exact a0
 ·rw [f1] at hu; cases hu; exact a1
 ·rw [f2] at hu; cases hu; exact a2
 ·rw [f3] at hu; cases hu; exact a3
theorem wf_ (h:w.ownsRow base e 4 v l.length (flat l)):∃ ao cap,v=.slice ao l.length cap∧zk_ w ao l∧∀ x,ao=some x->base<=x.block∧x.block < w.heap.size:=by
 have hq:=h.2;rcases hq with ⟨rfl,hn⟩ | ⟨g,cap,cur,rfl,hb,hh,hnc,hm,hs,ht⟩
 ·exact ⟨none,0,by rw [hn],Or.inl (List.length_eq_zero_iff.1 hn),fun x hx=>by cases hx⟩
 ·refine ⟨some ⟨g,0,none⟩,cap,rfl,Or.inr ⟨g,0,rfl,fun i hi=>?_⟩,fun x hx=>?_⟩
  ·obtain ⟨f0,f1,f2,f3⟩:=sc_ l i hi;refine ⟨?_,?_,?_,?_⟩
   ·rw [h.cellAt _ (by omega)]; simpa using f0
   ·rw [h.cellAt _ (by omega)]; simpa using f1
   ·rw [h.cellAt _ (by omega)]; simpa using f2
   ·rw [h.cellAt _ (by omega)]; simpa using f3
  ·cases hx
   exact ⟨hb,by
    rcases Nat.lt_or_ge g w.heap.size with h' | h'
    ·exact h'
    ·rw [Array.getElem?_eq_none h'] at hh; cases hh⟩
end
section
variable {base e n:Nat} {v v' v1 v2:Value} {w w' w1 w2:World} {xs:List Value}
theorem pw_ {base' size:Nat} (h:w.ownsRow base e size v n xs) (hk:∀ k,v.ownBlock=some k->base'<=k):w.ownsRow base' e size v n xs:=by
 refine ⟨h.1,?_⟩;rcases h.2 with h' | ⟨g,cap,cur,rfl,hb,r⟩
 ·exact .inl h'
 ·exact .inr ⟨g,cap,cur,rfl,hk g rfl,r⟩
structure Gro (w w':World) (v v':Value):Prop where
 grown:w.grownBy w' v.ownBlock
 fresh:∀ k,v'.ownBlock=some k->v.ownBlock=some k∨w.heap.size<=k
theorem Gro.refl (w:World) (v:Value):Gro w w v v:=⟨⟨rfl,rfl,rfl,Nat.le_refl _,fun _ _ _=>rfl⟩,fun _ h=>.inl h⟩
theorem Gro.trans (h:Gro w w1 v v1) (k:Gro w1 w2 v1 v2):Gro w w2 v v2:=by
 refine ⟨⟨k.grown.os.trans h.grown.os,k.grown.tape.trans h.grown.tape,k.grown.output.trans h.grown.output,Nat.le_trans h.grown.size k.grown.size,fun b hb hne=>?_⟩,fun b hb=>?_⟩
 ·refine (k.grown.block b (Nat.lt_of_lt_of_le hb h.grown.size) (fun e=>?_)).trans (h.grown.block b hb hne);rcases h.fresh b e.symm with q | q
  ·exact hne q.symm
  ·omega
 ·rcases k.fresh b hb with q | q
  ·exact h.fresh b q
  ·exact .inr (Nat.le_trans h.grown.size q)
theorem Gro.of_below (hb:Below w.heap.size w w'):Gro w w' v v:=⟨⟨hb.os,hb.tape,hb.output,hb.size,fun b h _=>hb.block b h⟩,fun _ h=>.inl h⟩
theorem Gro.size (h:Gro w w' v v'):w.heap.size<=w'.heap.size:=h.grown.size
theorem Gro.below (h:Gro w w' v v') (hb:base<=w.heap.size) (hv:∀ k,v.ownBlock=some k->base<=k):Below base w w':=
 ⟨h.grown.os,h.grown.tape,h.grown.output,h.grown.size,fun b hk=>h.grown.block b (by omega) (fun e=>by have:=hv b e.symm; omega)⟩
theorem Gro.cell (h:Gro w w' v v') {b o:Nat} {u:Value} (hc:w.cell? ⟨b,o,none⟩=some u) (hne:v.ownBlock≠some b):w'.cell? ⟨b,o,none⟩=some u:=
 h.grown.cell hc (fun e=>hne e.symm)
theorem Gro.at (h:Gro w w' v v') {b o:Nat} {x:Sib} (hc:x9_ w b o x) (hne:v.ownBlock≠some b):x9_ w' b o x:=
 ⟨h.cell hc.1 hne,h.cell hc.2.1 hne,h.cell hc.2.2.1 hne,h.cell hc.2.2.2 hne⟩
theorem Gro.row (h:Gro w w' v v') {ao:Option Addr} {l:List Sib} (hc:zk_ w ao l) (hne:∀ x,ao=some x->v.ownBlock≠some x.block):zk_ w' ao l:=by
 rcases hc with h' | ⟨b,off,rfl,h2⟩
 ·exact .inl h'
 ·exact .inr ⟨b,off,rfl,fun i hi=>h.at (h2 i hi) (hne ⟨b,off,none⟩ rfl)⟩
theorem Gro.ne (h:Gro w w' v v') {b:Nat} (hb:b < w.heap.size) (hne:v.ownBlock≠some b):v'.ownBlock≠some b:=fun e=>by
 rcases h.fresh b e with q | q
 ·exact hne q
 ·omega
theorem zP_ {size:Nat} (h:w.ownsRow base e size v n xs) (hb:Below w.heap.size w w'):w'.ownsRow base e size v n xs:=by
 refine ⟨h.1,?_⟩;rcases h.2 with h' | ⟨g,cap,cur,rfl,hg,hh,r⟩
 ·exact .inl h'
 ·refine .inr ⟨g,cap,cur,rfl,hg,?_,r⟩
  rw [hb.block g (by
   rcases Nat.lt_or_ge g w.heap.size with h' | h'
   ·exact h'
   ·rw [Array.getElem?_eq_none h'] at hh; cases hh)]
  exact hh
variable {P:Program}
theorem xq_ (w:World) (t ty e:TypeId) (i:TypeInfo) (z:Value) (size bytes:Nat) (ht:P.underlying t=some (.slice e)) (hi:P.info? e=some i) (hz:i.zero=some z)
  (hsize:i.size=size) (hby:i.bytes=bytes) (hzs:z.cells.size=size) (hsz:0 < size)
  (v:Value) (n:Nat) (xs:List Value) (hown:w.ownsRow 0 e size v n xs)
  (a:Addr) (m c:Nat) (news:List Value) (hl:news.length=m * size) (hnews:∀ j u,news[j]? = some u->w.cell? (a.add j)=some u) (h1:∀ u ∈ news,u.oneCell'=true)
  (h63:n+m<=maxLen) (hbytes:(n+m) * bytes<=140737488355328) :
  ∃ v' w',(Builtin.append_ #[t,t] ty #[v,.slice (some a) m c]).run P w=.ok v' w'∧w'.ownsRow 0 e size v' (n+m) (xs++news)∧Gro w w' v v':=by
 rcases hown.2 with ⟨rfl,rfl⟩ | ⟨g,cap,cur,rfl,hbg,hg,hnc,hcm,hcs,htake⟩
 ·have hx:xs=[]:=List.eq_nil_of_length_eq_zero (by simpa using hown.1);subst hx;obtain ⟨v',w',r1,r2,r3,_⟩:=run_append_own (P:=P) w w.heap.size t ty e i z size bytes ht hi hz hsize hby hzs hsz _ 0 [] (World.ownsRow_nil w w.heap.size e size) a m c news hl hnews h1 h63 hbytes (Nat.le_refl _);exact ⟨v',w',r1,pw_ r2 (fun _ _=>Nat.zero_le _),r3,fun k hk=>.inr (r2.lt k hk).1⟩
 ·by_cases hroom:n+m<=cap
  ·obtain ⟨w',r1,r2,r3⟩:=run_append_fits (P:=P) w 0 t ty e i size ht hi hsize g n cap xs hown a m c news hl hnews h1 hroom;exact ⟨_,w',r1,r2,r3,fun k hk=>.inl hk⟩
  ·obtain ⟨v',w',r1,r2,r3,_⟩:=run_append_own (P:=P) w 0 t ty e i z size bytes ht hi hz hsize hby hzs hsz _ n xs hown a m c news hl hnews h1 h63 hbytes (Nat.zero_le _);subst hsize;subst hby
   have hsmall:n+m<=9223372036854775807:=by simp only [maxLen] at h63; omega
   have holds:∀ j u,xs[j]? = some u->w.cell? ((⟨g,0,none⟩:Addr).add j)=some u:=hown.cells (g:=g) rfl;have hr:=run_append_grow (P:=P) w t ty e i z ht hi hz ⟨g,0,none⟩ n cap xs hown.1 holds a m c news hl hnews (by omega) (by omega) (growslice_fits (by omega) hbytes);rw [hr] at r1;cases r1;exact ⟨_,_,hr,r2,r3,fun k hk=>.inr (by simp [Value.ownBlock] at hk; omega)⟩
theorem zJ_ {w:World} {ops:Array Oper} {rest:List Oper} {o:Oper} {a:Act} {Q:Exit->Act->World->Prop} (hgd:o.guard=none) (s x:Operand) (t:TypeId)
  (ho:o.op=.call { callee:=.builtin .append,args:=#[s,x],argTypes:=#[t,t] })
  (e:TypeId) (i:TypeInfo) (z:Value) (size bytes:Nat) (ht:P.underlying t=some (.slice e)) (hi:P.info? e=some i) (hz:i.zero=some z)
  (hsize:i.size=size) (hby:i.bytes=bytes) (hzs:z.cells.size=size) (hsz:0 < size)
  (v:Value) (n:Nat) (xs:List Value) (hs:a.eval s=v) (hown:w.ownsRow 0 e size v n xs)
  (ad:Addr) (m c:Nat) (news:List Value) (hx:a.eval x=.slice (some ad) m c) (hl:news.length=m * size) (hnews:∀ j u,news[j]? = some u->w.cell? (ad.add j)=some u) (h1:∀ u ∈ news,u.oneCell'=true)
  (h63:n+m<=maxLen) (hbytes:(n+m) * bytes<=140737488355328)
  (h:∀ v' w',w'.ownsRow 0 e size v' (n+m) (xs++news)->Gro w w' v v'->wpList P ops Q rest (a.put o.dst v') w'):wpList P ops Q (o :: rest) a w:=
 wpList_plain hgd fun _ hK=>by
  obtain ⟨v',w',hr,h2,h3⟩:=xq_ (P:=P) w t o.type e i z size bytes ht hi hz hsize hby hzs hsz v n xs hown ad m c news hl hnews h1 h63 hbytes;unfold Oper.wp execOp;simp only [ho,resolve,invoke,builtin,Sem.run_bind,Sem.run_pure,Result.andThen_ok,List.map_toArray,List.map_cons,List.map_nil,hs,hx,hr];exact hK _ _ (h v' w' h2 h3)
end
section
variable {W W':World} {ao:Option Addr} {v:Value}
def IRow (W:World) (ao:Option Addr) (xs:List Int):Prop:=xs=[]∨∃ b off,ao=some ⟨b,off,none⟩∧∀ i (h:i < xs.length),W.cell? ⟨b,off+i,none⟩=some (.int .i64 xs[i])
theorem IRow.next {xs:List Int} (h:IRow W ao xs) (hb:Below W.heap.size W W'):IRow W' ao xs:=by
 rcases h with h | ⟨b,off,rfl,h2⟩
 ·exact .inl h
 ·exact .inr ⟨b,off,rfl,fun i hi=>za_ hb (h2 i hi) (zh_ (h2 i hi))⟩
theorem own_irow {xs:List Int} (h:W.ownsRow 0 3 1 v xs.length (xs.map (Value.int .i64))):∃ ao cap,v=.slice ao xs.length cap∧IRow W ao xs:=by
 rcases h.2 with ⟨rfl,hn⟩ | ⟨g,cap,cur,rfl,hb,hh,hnc,hm,hs,ht⟩
 ·exact ⟨none,0,by rw [hn],.inl (List.length_eq_zero_iff.1 hn)⟩
 ·refine ⟨some ⟨g,0,none⟩,cap,rfl,.inr ⟨g,0,rfl,fun i hi=>?_⟩⟩;rw [h.cellAt _ (by omega)];simp [hi]
theorem sameInts_any (cap cp:Nat) (ao bo:Option Addr) (xs:List Int) (w:World) (hm:(xs.length:Int)<=1048576) (ha0:IRow w ao xs) (hb0:IRow w bo xs) :
  Calls Tryz.prog 16 #[.slice ao xs.length cap,.slice bo xs.length cp] w fun e w'=>e=.returned (.bool true)∧Below w.heap.size w w':=by
 have HA:Hid (IRow w ao xs):=ha0;have HB:Hid (IRow w bo xs):=hb0;clear ha0 hb0;go_enter Tryz.func16,Tryz.ntmps16;go_wp2;go_loopw [5] (fun s5 wr=>∃ i:Nat,i<=xs.length∧s5=.int .i64 i∧Below w.heap.size w wr) (fun s5 _=>xs.length - (intOf s5).toNat)
 case atStart=>exact ⟨0,by omega,rfl,Below.refl _ _⟩
 case round=>
  obtain ⟨i,hi,rfl,hw0⟩:=hrel;have HW:=hm_ hw0;clear hw0;by_cases hlt:i < xs.length
  ·have hlt':(i:Int) < (xs.length:Int):=by omega
   have kk:(0:Int)<=(i:Int):=by omega
   rcases HA.out.next HW.out with h' | ⟨b,off,rfl,h1⟩
   ·rw [h'] at hlt; simp at hlt
   rcases HB.out.next HW.out with h' | ⟨b',off',rfl,h2⟩
   ·rw [h'] at hlt; simp at hlt
   have e1:=h1 i hlt;have e2:=h2 i hlt;clear h1 h2;obtain ⟨x,hx⟩:∃ x,xs[i]=x:=⟨_,rfl⟩;rw [hx] at e1 e2;clear hx;go_wp2
   go_quiet (fail)
   go_wp2
   go_roundw
   case rel=>exact ⟨i+1,by omega,by go_num,below_drewN HW.out _⟩
   case measure=>simp [intOf]; omega
  ·have hlt':¬ (i:Int) < (xs.length:Int):=by omega
   go_wp2;go_ret;exact ⟨rfl,HW.out⟩
end
end Go.Proofs.YtijcjhcgpmnchaaGreatDoor
