/- Nodes and their buckets, part 26 of the law FnDigest. -/
import Derived.Test.YtiokjphefpicbaaGreatDoorM25
namespace Go.Proofs.YtiokjphefpicbaaGreatDoor
open Go.RowKit
set_option maxRecDepth 100000
set_option maxHeartbeats 16000000
set_option linter.unusedSimpArgs false
set_option linter.unusedVariables false
section
variable {W W':World} {b g i q:Nat} {t:TypeId} {u u' u0 u1 u2 u3 u4 u5 u6 v0 v1 v2 v3 v4 v5 v6:Value} {vs xs:List Value}
structure Box (W:World) (g:Nat) (vs:List Value):Prop where
 is:∀ j (h:j < vs.length),W.cell? ⟨g,j,none⟩=some vs[j]∧W.frozen? ⟨g,j,none⟩=false
 lt:g < W.heap.size
theorem Box.next (h:Box W g vs) (hb:Below W.heap.size W W'):Box W' g vs:=⟨fun j hj=>⟨za_ hb (h.is j hj).1 h.lt,zd_ hb (h.is j hj).2 h.lt⟩,Nat.lt_of_lt_of_le h.lt hb.size⟩
theorem Box.gro (h:Box W g vs) (hg:Gro W W' u u') (hne:u.ownBlock≠some g):Box W' g vs:=
 ⟨fun j hj=>⟨hg.cell (h.is j hj).1 hne,by rw [World.frozen?_of_block (w:=W) (hg.grown.block g h.lt (fun e=>hne e.symm))]; exact (h.is j hj).2⟩,Nat.lt_of_lt_of_le h.lt hg.size⟩
theorem Box.oth (h:Box W g vs) (hne:g≠q):Box (W.setCell ⟨q,i,none⟩ u) g vs:=⟨fun j hj=>⟨zf_ (h.is j hj).1 hne,by simpa using (h.is j hj).2⟩,by simpa [World.setCell] using h.lt⟩
theorem Box.set (h:Box W g vs) (hi:i < vs.length):Box (W.setCell ⟨g,i,none⟩ u) g (vs.set i u):=by
 refine ⟨fun j hj=>⟨?_,?_⟩,by simpa [World.setCell] using h.lt⟩
 ·by_cases e:i=j
  ·subst e
   rw [List.getElem_set_self]
   exact z0_ (by rw [(h.is i hi).1]; rfl)
  ·rw [List.getElem_set_ne e,zq_ e]
   exact (h.is j (by simpa using hj)).1
 ·have:=(h.is j (by simpa using hj)).2
  simpa using this
theorem zo_:Box (W.alloc (.cells vs.toArray t)) W.heap.size vs:=by
 refine ⟨fun j hj=>⟨?_,by go_simp⟩,by simp⟩
 rw [World.cell?_alloc_at _ _ _ _ rfl,List.getElem?_toArray,List.getElem?_eq_getElem hj]
theorem Box.alloc {ob:Obj} (h:Box W g vs):Box (W.alloc ob) g vs:=h.next (zb_ _ _)
theorem Box.c2 (h:Box W g [v0,v1]):W.cell? ⟨g,0,none⟩=some v0∧W.cell? ⟨g,1,none⟩=some v1:=⟨(h.is 0 (by simp)).1,(h.is 1 (by simp)).1⟩
theorem Box.f2 (h:Box W g [v0,v1]):W.frozen? ⟨g,0,none⟩=false∧W.frozen? ⟨g,1,none⟩=false:=⟨(h.is 0 (by simp)).2,(h.is 1 (by simp)).2⟩
theorem Box.o2 (h:Box W b xs) (hne:b≠g):Box ((W.setCell ⟨g,0,none⟩ u0).setCell ⟨g,1,none⟩ u1) b xs:=((h.oth hne).oth hne)
theorem Box.c4 (h:Box W g [v0,v1,v2,v3]):W.cell? ⟨g,0,none⟩=some v0∧W.cell? ⟨g,1,none⟩=some v1∧W.cell? ⟨g,2,none⟩=some v2∧W.cell? ⟨g,3,none⟩=some v3:=⟨(h.is 0 (by simp)).1,(h.is 1 (by simp)).1,(h.is 2 (by simp)).1,(h.is 3 (by simp)).1⟩
theorem Box.f4 (h:Box W g [v0,v1,v2,v3]):W.frozen? ⟨g,0,none⟩=false∧W.frozen? ⟨g,1,none⟩=false∧W.frozen? ⟨g,2,none⟩=false∧W.frozen? ⟨g,3,none⟩=false:=⟨(h.is 0 (by simp)).2,(h.is 1 (by simp)).2,(h.is 2 (by simp)).2,(h.is 3 (by simp)).2⟩
theorem Box.s4 (h:Box W g [v0,v1,v2,v3]):Box ((((W.setCell ⟨g,0,none⟩ u0).setCell ⟨g,1,none⟩ u1).setCell ⟨g,2,none⟩ u2).setCell ⟨g,3,none⟩ u3) g [u0,u1,u2,u3]:=by
 have:=((((h.set (i:=0) (u:=u0) (by simp)).set (i:=1) (u:=u1) (by simp)).set (i:=2) (u:=u2) (by simp)).set (i:=3) (u:=u3) (by simp))
 simpa using this
theorem Box.o4 (h:Box W b xs) (hne:b≠g):Box ((((W.setCell ⟨g,0,none⟩ u0).setCell ⟨g,1,none⟩ u1).setCell ⟨g,2,none⟩ u2).setCell ⟨g,3,none⟩ u3) b xs:=((((h.oth hne).oth hne).oth hne).oth hne)
theorem Box.c7 (h:Box W g [v0,v1,v2,v3,v4,v5,v6]):W.cell? ⟨g,0,none⟩=some v0∧W.cell? ⟨g,1,none⟩=some v1∧W.cell? ⟨g,2,none⟩=some v2∧W.cell? ⟨g,3,none⟩=some v3∧W.cell? ⟨g,4,none⟩=some v4∧W.cell? ⟨g,5,none⟩=some v5∧W.cell? ⟨g,6,none⟩=some v6:=⟨(h.is 0 (by simp)).1,(h.is 1 (by simp)).1,(h.is 2 (by simp)).1,(h.is 3 (by simp)).1,(h.is 4 (by simp)).1,(h.is 5 (by simp)).1,(h.is 6 (by simp)).1⟩
theorem Box.f7 (h:Box W g [v0,v1,v2,v3,v4,v5,v6]):W.frozen? ⟨g,0,none⟩=false∧W.frozen? ⟨g,1,none⟩=false∧W.frozen? ⟨g,2,none⟩=false∧W.frozen? ⟨g,3,none⟩=false∧W.frozen? ⟨g,4,none⟩=false∧W.frozen? ⟨g,5,none⟩=false∧W.frozen? ⟨g,6,none⟩=false:=⟨(h.is 0 (by simp)).2,(h.is 1 (by simp)).2,(h.is 2 (by simp)).2,(h.is 3 (by simp)).2,(h.is 4 (by simp)).2,(h.is 5 (by simp)).2,(h.is 6 (by simp)).2⟩
theorem Box.s7 (h:Box W g [v0,v1,v2,v3,v4,v5,v6]):Box (((((((W.setCell ⟨g,0,none⟩ u0).setCell ⟨g,1,none⟩ u1).setCell ⟨g,2,none⟩ u2).setCell ⟨g,3,none⟩ u3).setCell ⟨g,4,none⟩ u4).setCell ⟨g,5,none⟩ u5).setCell ⟨g,6,none⟩ u6) g [u0,u1,u2,u3,u4,u5,u6]:=by
 have:=(((((((h.set (i:=0) (u:=u0) (by simp)).set (i:=1) (u:=u1) (by simp)).set (i:=2) (u:=u2) (by simp)).set (i:=3) (u:=u3) (by simp)).set (i:=4) (u:=u4) (by simp)).set (i:=5) (u:=u5) (by simp)).set (i:=6) (u:=u6) (by simp))
 simpa using this
theorem Box.o7 (h:Box W b xs) (hne:b≠g):Box (((((((W.setCell ⟨g,0,none⟩ u0).setCell ⟨g,1,none⟩ u1).setCell ⟨g,2,none⟩ u2).setCell ⟨g,3,none⟩ u3).setCell ⟨g,4,none⟩ u4).setCell ⟨g,5,none⟩ u5).setCell ⟨g,6,none⟩ u6) b xs:=(((((((h.oth hne).oth hne).oth hne).oth hne).oth hne).oth hne).oth hne)
theorem zQ_ {P:Program} {c:Code} {Q:Exit→Act→World→Prop} {a:Act} (I:World→Prop) (h:I W) (k:∀ W',I W'→Code.wp P c Q a W'):Code.wp P c Q a W:=k W h
theorem wy_ (id:Int) (w:World) (lo:Nat) :
  Calls Tryz.prog 124 #[.int .i64 id] w fun e w'=>∃ o:No,e=.returned (nV o)∧NoR lo w' o∧o.x=newN id∧o.su=[]∧o.un=[]∧Below w.heap.size w w':=by
 (try unfold nV)
 go_enter Tryz.func124,Tryz.ntmps124
 go_wp2
 refine bodyPost_ret (v:=.agg #[.int .i64 id,.int .i64 0,.int .i64 0,.slice (some ⟨w.heap.size+1,0,none⟩) 0 0,.slice (some ⟨w.heap.size+1+1,0,none⟩) 0 0,.slice (some ⟨w.heap.size+1+1+1,0,none⟩) 0 0,.slice (some ⟨w.heap.size+1+1+1+1,0,none⟩) 0 0]) (by simp [results,Tryz.results124,go_sem, *]) rfl ?_
 refine ⟨⟨newN id,[],_,_,_,_,_,_,_,_,[],[]⟩,rfl,⟨rfl,.inl rfl,.inl rfl,.inl rfl,.inl rfl,fun m hm=>by simp at hm,by simp [newN]⟩,rfl,rfl,rfl,?_⟩
 repeat (first | exact Below.refl _ _ | refine Below.drew ?_ | refine below_drewN ?_ _ | refine Below.alloc ?_ (by first | (simp; done) | (simp; omega)) _ | refine Below.setCell ?_ (by first | (simp; done) | (simp; omega)) _)
theorem uw_ (lo:Nat) (o:No) (k:ByteArray) (c:Cl) (p:Option Addr) (q:Nat) (w:World) (hs:o.su.length+o.un.length < 300) (hm:o.ms.length < 100) (hl:c.l.length≤100) (h0:NoR lo w o) :
  Calls Tryz.prog 102 #[nV o,.string k,.agg #[.slice p c.l.length q,.int .i64 c.a,.int .i64 c.b,.int .i64 c.c]] w fun e w'=>e=.returned (.int .i64 0)∧Below w.heap.size w w':=by
 (try unfold nV)
 have h:Hid (NoR lo w o):=h0
 have CF:Hid (∀ W,NoR lo W o→Calls Tryz.prog 152 #[nV o,.string k] W fun e w'=>∃ i:Int,e=.returned (.int .i64 i)∧Hid (tP_ o.ms k i)∧Below W.heap.size W w'):=fun W hW=>wb_ lo o k W (by omega) hW
 clear h0
 have q1:IntKind.i64.wrap ((o.su.length:Int)+(o.un.length:Int))=(o.su.length:Int)+(o.un.length:Int):=by rw [IntKind.wrap_i64]; omega
 have q2:¬ ((o.su.length:Int)+(o.un.length:Int)=300):=by omega
 have q3:¬ ((o.ms.length:Int)=100):=by omega
 have q4:¬ ((100:Int) < (c.l.length:Int)):=by omega
 have BB:Hid (Below w.heap.size w ((w.alloc (.cells (nL o).toArray 29)).alloc (.cells #[.slice p c.l.length q,.int .i64 c.a,.int .i64 c.b,.int .i64 c.c] 37))):=(zb_ _ _).trans ((zb_ _ _).mono (by simp))
 have BX:Hid (Box ((w.alloc (.cells (nL o).toArray 29)).alloc (.cells #[.slice p c.l.length q,.int .i64 c.a,.int .i64 c.b,.int .i64 c.c] 37)) w.heap.size (nL o)):=zo_.alloc
 have BO:Hid (Box ((w.alloc (.cells (nL o).toArray 29)).alloc (.cells #[.slice p c.l.length q,.int .i64 c.a,.int .i64 c.b,.int .i64 c.c] 37)) (w.heap.size+1) [.slice p c.l.length q,.int .i64 c.a,.int .i64 c.b,.int .i64 c.c]):=by
  have:=zo_ (W:=w.alloc (.cells (nL o).toArray 29)) (t:=37) (vs:=[.slice p c.l.length q,.int .i64 c.a,.int .i64 c.b,.int .i64 c.c])
  show Box _ _ _
  simpa using this
 go_enter Tryz.func102,Tryz.ntmps102
 go_wp2_with fail
 generalize ((w.alloc (.cells (nL o).toArray 29)).alloc (.cells #[.slice p c.l.length q,.int .i64 c.a,.int .i64 c.b,.int .i64 c.c] 37))=W0 at *
 go_at_call 152
 refine (CF.out _ (h.out.next BB.out)).mono ?_
 rintro e w1 ⟨i,rfl,hF,hb⟩
 obtain ⟨b0,b1,b2,b3,b4,b5,b6⟩:=(BX.out.next hb).c7
 obtain ⟨a0,a1,a2,a3⟩:=(BO.out.next hb).c4
 have B1:Hid (Below w.heap.size w w1):=BB.out.trans (hb.mono BB.out.size)
 clear hb BX BO
 rcases hF.out with ⟨hn,rfl⟩ | ⟨j,hj,rfl,hk,hg⟩
 ·have p1:((-1:Int)) < 0:=by omega
  clear hF
  go_wp2
  go_ret
  exact ⟨by first | rfl | simp,B1.out⟩
 ·have p1:¬ ((j:Int)) < 0:=by omega
  clear hF hk hg
  go_wp2
  go_ret
  exact ⟨by first | rfl | simp,B1.out⟩
end
section
variable {W:World} {g:Nat} {v0 v1 v2 v3 v4:Value}
theorem Box.c5 (h:Box W g [v0,v1,v2,v3,v4]):W.cell? ⟨g,0,none⟩=some v0∧W.cell? ⟨g,1,none⟩=some v1∧W.cell? ⟨g,2,none⟩=some v2∧W.cell? ⟨g,3,none⟩=some v3∧W.cell? ⟨g,4,none⟩=some v4:=⟨(h.is 0 (by simp)).1,(h.is 1 (by simp)).1,(h.is 2 (by simp)).1,(h.is 3 (by simp)).1,(h.is 4 (by simp)).1⟩
end
section
variable {W W' w:World} {b g i lo n:Nat} {cs:List Cl} {f:Nat→ByteArray} {o:No}
def objB (c:Cl):ByteArray:=⟨(objT (vvT c.a c.b c.c) c.l).toArray⟩
def bkN (k:ByteArray):Nat:=zv_ k k.size % 4
theorem qV_ (k:ByteArray):bkN k < 4:=Nat.mod_lt _ (by decide)
def un_ (b:Nat) (t:ByteArray) (c:Cl):ByteArray:=if bkN c.k=b then t++c.k++⟨#[32]⟩++objB c++⟨#[10]⟩ else t
def bt (b:Nat) (cs:List Cl):ByteArray:=cs.foldl (un_ b) ⟨#[]⟩
theorem qO_ (b:Nat) (cs:List Cl) (c:Cl):bt b (cs++[c])=un_ b (bt b cs) c:=by simp [bt,List.foldl_append]
theorem nY_ {c:Cl} (h:bkN c.k=b):bt b (cs++[c])=bt b cs++c.k++⟨#[32]⟩++objB c++⟨#[10]⟩:=by rw [qO_,un_,if_pos h]
theorem ob_ {c:Cl} (h:bkN c.k≠b):bt b (cs++[c])=bt b cs:=by rw [qO_,un_,if_neg h]
structure CsK (cs:List Cl):Prop where
 ok:∀ c ∈ cs,OkP c.l c.a c.b c.c∧keyP c.k
 n:cs.length≤100
theorem vO_ {c:Cl} (h:OkP c.l c.a c.b c.c):(objB c).size≤1300200:=by
 have h1:=wx_ (X:=vvT c.a c.b c.c) (wS_ h)
 have h2:=we_ h.2.1
 have h3:=h.1
 simp [objB,ByteArray.size]
 omega
theorem rx_ {t:ByteArray} {c:Cl} (h:OkP c.l c.a c.b c.c∧keyP c.k):(un_ b t c).size≤t.size+1400000:=by
 have h1:=vO_ h.1
 have h2:=h.2.2.1
 have s1:(⟨#[32]⟩:ByteArray).size=1:=rfl
 have s2:(⟨#[10]⟩:ByteArray).size=1:=rfl
 unfold un_
 split
 ·simp only [ByteArray.size_append,s1,s2]; omega
 ·omega
theorem su_ (b:Nat):∀ (cs:List Cl) (t:ByteArray),(∀ c ∈ cs,OkP c.l c.a c.b c.c∧keyP c.k)→(cs.foldl (un_ b) t).size≤t.size+cs.length * 1400000
 | [],t,_=>by simp
 | c :: cs,t,h=>by
  have h1:=su_ b cs (un_ b t c) (fun x hx=>h x (by simp [hx]))
  have h2:=rx_ (b:=b) (t:=t) (h c (by simp))
  simp only [List.foldl_cons,List.length_cons]
  omega
theorem nX_ (b:Nat) (cs:List Cl) (h:∀ c ∈ cs,OkP c.l c.a c.b c.c∧keyP c.k):(bt b cs).size≤cs.length * 1400000:=by
 have:=su_ b cs ⟨#[]⟩ h
 have e:(⟨#[]⟩:ByteArray).size=0:=rfl
 rw [e,Nat.zero_add] at this
 exact this
theorem CsK.take (h:CsK cs) (i:Nat):CsK (cs.take i):=⟨fun c hc=>h.ok c (List.mem_of_mem_take hc),by have:=h.n; simp; omega⟩
theorem CsK.len (h:CsK cs) (b:Nat):(bt b cs).size≤140000000:=by
 have h1:=nX_ b cs h.ok
 have:=h.n
 have:cs.length * 1400000≤100 * 1400000:=Nat.mul_le_mul_right _ this
 omega
theorem nZ_ {u:ByteArray} {f':Nat→ByteArray} (h:Box W g [.string (f 0),.string (f 1),.string (f 2),.string (f 3)]) (hn:n < 4) (hu:f' n=u) (ho:∀ k,n≠k→f' k=f k):Box (W.setCell ⟨g,n,none⟩ (.string u)) g [.string (f' 0),.string (f' 1),.string (f' 2),.string (f' 3)]:=by
 have h1:=h.set (i:=n) (u:=.string u) (by simpa using hn)
 have e:([.string (f 0),.string (f 1),.string (f 2),.string (f 3)]:List Value).set n (.string u)=[.string (f' 0),.string (f' 1),.string (f' 2),.string (f' 3)]:=by
  subst hu
  rcases (by omega:n=0∨n=1∨n=2∨n=3) with rfl | rfl | rfl | rfl <;> simp [ho]
 rw [e] at h1
 exact h1
theorem ue_ (h:NoR lo w o) {i:Nat} (hi:i < o.ms.length):o.x.cs.take (i+1)=o.x.cs.take i++[o.ms[i].c]:=by
 rw [h.cs,List.take_succ_eq_append_getElem (by simpa using hi)]
 simp
theorem rh_ (t kk X:ByteArray) (cap:Nat) (ao:Option Addr) (l:List Sib) (a b c:Int) (w:World) (hs:t.size≤1000000000) (hk:kk.size≤1000000000) (hx:X.size≤1000000000)
  (CO:Hid (∀ W,Below w.heap.size w W→Calls Tryz.prog 97 #[.agg #[.slice ao l.length cap,.int .i64 a,.int .i64 b,.int .i64 c]] W fun e w'=>e=.returned (.tuple #[.string X,.int .i64 0])∧Below W.heap.size W w')) :
  Calls Tryz.prog 134 #[.string t,.agg #[.string kk,.slice ao l.length cap,.int .i64 a,.int .i64 b,.int .i64 c]] w fun e w'=>e=.returned (.string (t++kk++⟨#[32]⟩++X++⟨#[10]⟩))∧Below w.heap.size w w':=by
 have X0:Hid (Box (w.alloc (.cells #[.string kk,.slice ao l.length cap,.int .i64 a,.int .i64 b,.int .i64 c] 91)) w.heap.size [.string kk,.slice ao l.length cap,.int .i64 a,.int .i64 b,.int .i64 c]∧Below w.heap.size w (w.alloc (.cells #[.string kk,.slice ao l.length cap,.int .i64 a,.int .i64 b,.int .i64 c] 91))):=⟨zo_,zb_ _ _⟩
 have q0:¬ 9223372036854775807 < t.size+kk.size:=by omega
 have q1:¬ 9223372036854775807 < t.size+kk.size+1:=by omega
 have q2:¬ 9223372036854775807 < t.size+kk.size+1+X.size:=by omega
 have q3:¬ 9223372036854775807 < t.size+kk.size+1+X.size+1:=by omega
 clear hs hk hx
 go_enter Tryz.func134,Tryz.ntmps134
 go_upto_region 1 with fail
 generalize w.alloc (.cells #[.string kk,.slice ao l.length cap,.int .i64 a,.int .i64 b,.int .i64 c] 91)=W0 at *
 obtain ⟨x0,x1,x2,x3,x4⟩:=X0.out.1.c5
 go_wp2_with fail
 refine Calls.mono (CO.out _ X0.out.2) ?_
 rintro e W1 ⟨rfl,hb⟩
 replace X0:Hid (Box W1 w.heap.size [.string kk,.slice ao l.length cap,.int .i64 a,.int .i64 b,.int .i64 c]∧Below w.heap.size w W1):=⟨X0.out.1.next hb,X0.out.2.trans (hb.mono X0.out.2.size)⟩
 clear hb x0 x1 x2 x3 x4 CO
 obtain ⟨x0,x1,x2,x3,x4⟩:=X0.out.1.c5
 go_wp2
 go_ret
 exact ⟨rfl,X0.out.2⟩
theorem Bx4.next (h:Box W w.heap.size (nL o)∧Box W (w.heap.size+1) [.string ⟨#[]⟩,.string ⟨#[]⟩,.string ⟨#[]⟩,.string ⟨#[]⟩]∧Box W (w.heap.size+1+1) [.string (bt 0 (o.x.cs.take i)),.string (bt 1 (o.x.cs.take i)),.string (bt 2 (o.x.cs.take i)),.string (bt 3 (o.x.cs.take i))]∧Below w.heap.size w W) (hb:Below W.heap.size W W'):Box W' w.heap.size (nL o)∧Box W' (w.heap.size+1) [.string ⟨#[]⟩,.string ⟨#[]⟩,.string ⟨#[]⟩,.string ⟨#[]⟩]∧Box W' (w.heap.size+1+1) [.string (bt 0 (o.x.cs.take i)),.string (bt 1 (o.x.cs.take i)),.string (bt 2 (o.x.cs.take i)),.string (bt 3 (o.x.cs.take i))]∧Below w.heap.size w W':=⟨h.1.next hb,h.2.1.next hb,h.2.2.1.next hb,h.2.2.2.trans (hb.mono h.2.2.2.size)⟩
theorem ug_ (lo:Nat) (o:No) (w:World) (hk:CsK o.x.cs) (h0:NoR lo w o) (ht:TB w) :
  Calls Tryz.prog 133 #[nV o,.func (.func 134) #[] #[]] w fun e w'=>e=.returned (.agg #[.string (bt 0 o.x.cs),.string (bt 1 o.x.cs),.string (bt 2 o.x.cs),.string (bt 3 o.x.cs)])∧Below w.heap.size w w':=by
 (try unfold nV)
 have H:Hid (NoR lo w o∧TB w∧CsK o.x.cs):=⟨h0,ht,hk⟩
 have hml:o.ms.length≤100:=by have:=hk.n; rw [h0.cs] at this; simpa using this
 have X:Hid (Box (((w.alloc (.cells (nL o).toArray 29)).alloc (.cells #[.string ⟨#[]⟩,.string ⟨#[]⟩,.string ⟨#[]⟩,.string ⟨#[]⟩] 110)).alloc (.cells #[.string ⟨#[]⟩,.string ⟨#[]⟩,.string ⟨#[]⟩,.string ⟨#[]⟩] 110)) w.heap.size (nL o)∧Box (((w.alloc (.cells (nL o).toArray 29)).alloc (.cells #[.string ⟨#[]⟩,.string ⟨#[]⟩,.string ⟨#[]⟩,.string ⟨#[]⟩] 110)).alloc (.cells #[.string ⟨#[]⟩,.string ⟨#[]⟩,.string ⟨#[]⟩,.string ⟨#[]⟩] 110)) (w.heap.size+1) [.string ⟨#[]⟩,.string ⟨#[]⟩,.string ⟨#[]⟩,.string ⟨#[]⟩]∧Box (((w.alloc (.cells (nL o).toArray 29)).alloc (.cells #[.string ⟨#[]⟩,.string ⟨#[]⟩,.string ⟨#[]⟩,.string ⟨#[]⟩] 110)).alloc (.cells #[.string ⟨#[]⟩,.string ⟨#[]⟩,.string ⟨#[]⟩,.string ⟨#[]⟩] 110)) (w.heap.size+1+1) [.string (bt 0 (o.x.cs.take 0)),.string (bt 1 (o.x.cs.take 0)),.string (bt 2 (o.x.cs.take 0)),.string (bt 3 (o.x.cs.take 0))]∧Below w.heap.size w (((w.alloc (.cells (nL o).toArray 29)).alloc (.cells #[.string ⟨#[]⟩,.string ⟨#[]⟩,.string ⟨#[]⟩,.string ⟨#[]⟩] 110)).alloc (.cells #[.string ⟨#[]⟩,.string ⟨#[]⟩,.string ⟨#[]⟩,.string ⟨#[]⟩] 110))):=by
  have h1:Box ((w.alloc (.cells (nL o).toArray 29)).alloc (.cells #[.string ⟨#[]⟩,.string ⟨#[]⟩,.string ⟨#[]⟩,.string ⟨#[]⟩] 110)) (w.alloc (.cells (nL o).toArray 29)).heap.size [.string ⟨#[]⟩,.string ⟨#[]⟩,.string ⟨#[]⟩,.string ⟨#[]⟩]:=zo_
  have h2:Box (((w.alloc (.cells (nL o).toArray 29)).alloc (.cells #[.string ⟨#[]⟩,.string ⟨#[]⟩,.string ⟨#[]⟩,.string ⟨#[]⟩] 110)).alloc (.cells #[.string ⟨#[]⟩,.string ⟨#[]⟩,.string ⟨#[]⟩,.string ⟨#[]⟩] 110)) ((w.alloc (.cells (nL o).toArray 29)).alloc (.cells #[.string ⟨#[]⟩,.string ⟨#[]⟩,.string ⟨#[]⟩,.string ⟨#[]⟩] 110)).heap.size [.string ⟨#[]⟩,.string ⟨#[]⟩,.string ⟨#[]⟩,.string ⟨#[]⟩]:=zo_
  have e1:(w.alloc (.cells (nL o).toArray 29)).heap.size=w.heap.size+1:=by simp
  have e2:((w.alloc (.cells (nL o).toArray 29)).alloc (.cells #[.string ⟨#[]⟩,.string ⟨#[]⟩,.string ⟨#[]⟩,.string ⟨#[]⟩] 110)).heap.size=w.heap.size+1+1:=by simp
  rw [e1] at h1
  rw [e2] at h2
  exact ⟨zo_.alloc.alloc,h1.alloc,h2,(zb_ _ _).trans (((zb_ _ _).trans ((zb_ _ _).mono (by simp))).mono (by simp))⟩
 clear h0 ht hk
 go_enter Tryz.func133,Tryz.ntmps133
 go_upto_region 2 with fail
 generalize (((w.alloc (.cells (nL o).toArray 29)).alloc (.cells #[.string ⟨#[]⟩,.string ⟨#[]⟩,.string ⟨#[]⟩,.string ⟨#[]⟩] 110)).alloc (.cells #[.string ⟨#[]⟩,.string ⟨#[]⟩,.string ⟨#[]⟩,.string ⟨#[]⟩] 110))=W0 at *
 obtain ⟨b0,b1,b2,b3,b4,b5,b6⟩:=X.out.1.c7
 go_wp2
 go_loopw [12] (fun s12 wr=>∃ i:Nat,i≤o.ms.length∧s12=.int .i64 i∧Box wr w.heap.size [.int .i64 o.x.id,.int .i64 o.x.n,.int .i64 o.x.cut,.slice o.p0 o.ms.length o.c0,.slice o.p1 o.x.fd.length o.c1,.slice o.p2 o.su.length o.c2,.slice o.p3 o.un.length o.c3]∧Box wr (w.heap.size+1) [.string ⟨#[]⟩,.string ⟨#[]⟩,.string ⟨#[]⟩,.string ⟨#[]⟩]∧Box wr (w.heap.size+1+1) [.string (bt 0 (o.x.cs.take i)),.string (bt 1 (o.x.cs.take i)),.string (bt 2 (o.x.cs.take i)),.string (bt 3 (o.x.cs.take i))]∧Below w.heap.size w wr) (fun s12 _=>o.ms.length - (intOf s12).toNat)
 case atStart=>exact ⟨0,by omega,rfl,X.out⟩
 case round=>
  clear X b0 b1 b2 b3 b4 b5 b6
  obtain ⟨i,hil,rfl,hX⟩:=hrel
  have X:=hm_ hX
  clear hX
  by_cases hkl:i < o.ms.length
  ·have hkl':(i:Int) < (o.ms.length:Int):=by omega
   have kk:(0:Int)≤(i:Int):=by omega
   rcases (H.out.1.r0.next X.out.2.2.2).cm with h' | ⟨q,off,hp,_,h2⟩
   ·rw [h'] at hkl; simp at hkl
   obtain ⟨x0,x1,x2,x3,x4⟩:=h2 i hkl
   have HM:Hid (o.ms[i] ∈ o.ms):=List.getElem_mem hkl
   have HT:Hid (o.x.cs.take (i+1)=o.x.cs.take i++[o.ms[i].c]):=ue_ H.out.1 hkl
   have HR:Hid (∀ W,Below w.heap.size w W→zk_ W o.ms[i].p o.ms[i].c.l):=fun W hW=>((H.out.1.rs _ HM.out).1.next hW).sib
   have HC:Hid (OkP o.ms[i].c.l o.ms[i].c.a o.ms[i].c.b o.ms[i].c.c∧keyP o.ms[i].c.k):=H.out.2.2.ok _ (by rw [H.out.1.cs]; exact List.mem_map_of_mem HM.out)
   generalize hC:o.ms[i].c=C at *
   generalize o.ms[i].p=mp at *
   generalize o.ms[i].q=mq at *
   have hks:C.k.size < 1099511627776:=by have:=HC.out.2.2.1; omega
   have CB:Hid (∀ W,Calls Tryz.prog 79 #[.string C.k] W fun e w'=>e=.returned (.int .i64 ((bkN C.k:Nat):Int))∧Below W.heap.size W w'):=fun W=>yX_ C.k W hks
   have hn4:bkN C.k < 4:=qV_ _
   have HTB:Hid (bt (bkN C.k) (o.x.cs.take (i+1))=bt (bkN C.k) (o.x.cs.take i)++C.k++⟨#[32]⟩++objB C++⟨#[10]⟩∧∀ k,bkN C.k≠k→bt k (o.x.cs.take (i+1))=bt k (o.x.cs.take i)):=⟨by rw [HT.out]; exact nY_ rfl,fun k hk=>by rw [HT.out]; exact ob_ hk⟩
   have hsz:=(H.out.2.2.take i).len (bkN C.k)
   have HZ:Hid ((bt (bkN C.k) (o.x.cs.take i)).size≤1000000000∧C.k.size≤1000000000∧(objB C).size≤1000000000):=⟨by omega,by have:=HC.out.2.2.1; omega,by have:=vO_ HC.out.1; omega⟩
   generalize hnn:bkN C.k=n at *
   have n0:(0:Int)≤(n:Int):=by omega
   have n4:(n:Int) < 4:=by omega
   have CG:Hid (∀ W,Below w.heap.size w W→Calls Tryz.prog 134 #[.string (bt n (o.x.cs.take i)),.agg #[.string C.k,.slice mp C.l.length mq,.int .i64 C.a,.int .i64 C.b,.int .i64 C.c]] W fun e w'=>e=.returned (.string (bt n (o.x.cs.take (i+1))))∧Below W.heap.size W w'):=fun W hW=>by
    rw [HTB.out.1]
    exact rh_ _ _ _ _ _ _ _ _ _ W HZ.out.1 HZ.out.2.1 HZ.out.2.2 (fun W2 h2=>tD_ _ _ _ _ _ _ (vvT C.a C.b C.c) W2 (we_ HC.out.1.2.1) HC.out.1 (HR.out W2 (hW.trans (h2.mono hW.size))) (H.out.2.1.next (hW.trans (h2.mono hW.size))) (vvI HC.out.1.2.1))
   have HP:=hm_ hp
   rw [hp]
   clear h2 HM HT HR HC HZ hks hsz hC hnn hp
   go_upto_region 5 with fail
   refine zQ_ (fun W=>(Box W w.heap.size (nL o)∧Box W (w.heap.size+1) [.string ⟨#[]⟩,.string ⟨#[]⟩,.string ⟨#[]⟩,.string ⟨#[]⟩]∧Box W (w.heap.size+1+1) [.string (bt 0 (o.x.cs.take i)),.string (bt 1 (o.x.cs.take i)),.string (bt 2 (o.x.cs.take i)),.string (bt 3 (o.x.cs.take i))]∧Below w.heap.size w W)∧Box W wr.heap.size [.string C.k,.slice mp C.l.length mq,.int .i64 C.a,.int .i64 C.b,.int .i64 C.c]∧w.heap.size+1+1 < wr.heap.size) ⟨Bx4.next X.out (zb_ _ _),zo_,X.out.2.2.1.lt⟩ (fun W0 hI=>?_)
   replace X:=hm_ hI.1
   have X7:=hm_ hI.2.1
   have H7:=hm_ hI.2.2
   clear hI x0 x1 x2 x3 x4
   generalize wr.heap.size=g7 at *
   obtain ⟨y0,y1,y2,y3,y4⟩:=X7.out.c5
   go_wp2_with fail
   refine Calls.mono (CB.out _) ?_
   rintro e W1 ⟨rfl,hb⟩
   replace X:Hid (Box W1 w.heap.size (nL o)∧Box W1 (w.heap.size+1) [.string ⟨#[]⟩,.string ⟨#[]⟩,.string ⟨#[]⟩,.string ⟨#[]⟩]∧Box W1 (w.heap.size+1+1) [.string (bt 0 (o.x.cs.take i)),.string (bt 1 (o.x.cs.take i)),.string (bt 2 (o.x.cs.take i)),.string (bt 3 (o.x.cs.take i))]∧Below w.heap.size w W1):=Bx4.next X.out hb
   replace X7:=hm_ (X7.out.next hb)
   clear hb y0 y1 y2 y3 y4 CB
   go_upto_region 6 with fail
   refine wp_region_held_drew (S:=(fun w'=>w'.cell? ⟨g7,0,none⟩=some (.string C.k)∧w'.cell? ⟨g7,1,none⟩=some (.slice mp C.l.length mq)∧w'.cell? ⟨g7,2,none⟩=some (.int .i64 C.a)∧w'.cell? ⟨g7,3,none⟩=some (.int .i64 C.b)∧w'.cell? ⟨g7,4,none⟩=some (.int .i64 C.c))) (by kernel_rfl) ?_ (fun hH=>?_)
   ·(try dsimp only)
    exact (X7.out.next (zc_ _)).c5
   refine wTk 0 ?_
   refine wTk 1 ?_
   refine wTk 2 ?_
   refine wTk 3 ?_
   refine wTk 5 ?_
   replace X:Hid (Box W1.drew w.heap.size (nL o)∧Box W1.drew (w.heap.size+1) [.string ⟨#[]⟩,.string ⟨#[]⟩,.string ⟨#[]⟩,.string ⟨#[]⟩]∧Box W1.drew (w.heap.size+1+1) [.string (bt 0 (o.x.cs.take i)),.string (bt 1 (o.x.cs.take i)),.string (bt 2 (o.x.cs.take i)),.string (bt 3 (o.x.cs.take i))]∧Below w.heap.size w W1.drew):=Bx4.next X.out (zc_ _)
   replace X7:=hm_ (X7.out.next (zc_ _))
   generalize W1.drew=wd at *
   have y:wd.cell? ⟨w.heap.size+1+1,n,none⟩=some (.string (bt n (o.x.cs.take i))):=by
    have:=(X.out.2.2.1.is n (by simpa using hn4)).1
    rcases (by omega:n=0∨n=1∨n=2∨n=3) with rfl | rfl | rfl | rfl <;> exact this
   refine wRd 4 (fun K hK=>?_)
   go_simp
   (try simp only [])
   refine wHk hK (hH) ?_
   clear hK K hH y
   intro hH
   refine wRd 6 (fun K hK=>?_)
   go_simp
   go_at_call 134
   refine Calls.mono (CG.out _ X.out.2.2.2) ?_
   rintro e W2 ⟨rfl,hb⟩
   replace X:Hid (Box W2 w.heap.size (nL o)∧Box W2 (w.heap.size+1) [.string ⟨#[]⟩,.string ⟨#[]⟩,.string ⟨#[]⟩,.string ⟨#[]⟩]∧Box W2 (w.heap.size+1+1) [.string (bt 0 (o.x.cs.take i)),.string (bt 1 (o.x.cs.take i)),.string (bt 2 (o.x.cs.take i)),.string (bt 3 (o.x.cs.take i))]∧Below w.heap.size w W2):=Bx4.next X.out hb
   replace X7:=hm_ (X7.out.next hb)
   (try simp only [])
   refine wHk hK (X7.out.c5) ?_
   clear hK K hH hb CG
   intro hH
   refine wTk 7 ?_
   have y:W2.cell? ⟨w.heap.size+1+1,n,none⟩=some (.string (bt n (o.x.cs.take i))):=by
    have:=(X.out.2.2.1.is n (by simpa using hn4)).1
    rcases (by omega:n=0∨n=1∨n=2∨n=3) with rfl | rfl | rfl | rfl <;> exact this
   have yf:W2.frozen? ⟨w.heap.size+1+1,n,none⟩=false:=(X.out.2.2.1.is n (by simpa using hn4)).2
   have XS:Hid (Box (W2.setCell ⟨w.heap.size+1+1,n,none⟩ (.string (bt n (o.x.cs.take (i+1))))) w.heap.size (nL o)∧Box (W2.setCell ⟨w.heap.size+1+1,n,none⟩ (.string (bt n (o.x.cs.take (i+1))))) (w.heap.size+1) [.string ⟨#[]⟩,.string ⟨#[]⟩,.string ⟨#[]⟩,.string ⟨#[]⟩]∧Box (W2.setCell ⟨w.heap.size+1+1,n,none⟩ (.string (bt n (o.x.cs.take (i+1))))) (w.heap.size+1+1) [.string (bt 0 (o.x.cs.take (i+1))),.string (bt 1 (o.x.cs.take (i+1))),.string (bt 2 (o.x.cs.take (i+1))),.string (bt 3 (o.x.cs.take (i+1)))]∧Below w.heap.size w (W2.setCell ⟨w.heap.size+1+1,n,none⟩ (.string (bt n (o.x.cs.take (i+1)))))):=⟨X.out.1.oth (by omega),X.out.2.1.oth (by omega),nZ_ (f:=fun k=>bt k (o.x.cs.take i)) (f':=fun k=>bt k (o.x.cs.take (i+1))) X.out.2.2.1 hn4 rfl HTB.out.2,X.out.2.2.2.setCell (by show _≤_; dsimp only; omega) _⟩
   have X9:Hid (Box (W2.setCell ⟨w.heap.size+1+1,n,none⟩ (.string (bt n (o.x.cs.take (i+1))))) g7 [.string C.k,.slice mp C.l.length mq,.int .i64 C.a,.int .i64 C.b,.int .i64 C.c]):=X7.out.oth (by have:=H7.out; omega)
   refine wRd 8 (fun K hK=>?_)
   go_simp
   (try simp only [])
   refine wHk hK (X9.out.c5) ?_
   clear hK K hH y yf X X7
   intro hH
   refine wDn ?_
   clear hH
   go_wp2
   go_roundw
   case rel=>exact ⟨i+1,by omega,by go_num,by rw [← HP.out]; exact XS.out⟩
   case measure=>simp [intOf]; omega
  ·have hkl':¬ (i:Int) < (o.ms.length:Int):=by omega
   have e:o.x.cs.take i=o.x.cs:=by rw [List.take_of_length_le]; rw [H.out.1.cs]; simp; omega
   rw [e] at X
   obtain ⟨y0,y1,y2,y3⟩:=X.out.2.2.1.c4
   obtain ⟨z0,z1,z2,z3⟩:=X.out.2.1.c4
   obtain ⟨f0,f1,f2,f3⟩:=X.out.2.1.f4
   clear e
   go_wp2
   refine bodyPost_ret (v:=.agg #[.string (bt 0 o.x.cs),.string (bt 1 o.x.cs),.string (bt 2 o.x.cs),.string (bt 3 o.x.cs)]) (by simp [results,Tryz.results133,go_sem, *]) rfl ?_
   refine ⟨rfl,?_⟩
   exact (((X.out.2.2.2.setCell (by simp) _).setCell (by simp) _).setCell (by simp) _).setCell (by simp) _
theorem ya_ (lo:Nat) (o:No) (w:World) (hk:CsK o.x.cs) (h0:NoR lo w o) (ht:TB w) :
  Calls Tryz.prog 72 #[nV o] w fun e w'=>e=.returned (.agg #[.string (bt 0 o.x.cs),.string (bt 1 o.x.cs),.string (bt 2 o.x.cs),.string (bt 3 o.x.cs)])∧Below w.heap.size w w':=by
 (try unfold nV)
 have CB:Hid (∀ W,Below w.heap.size w W→Calls Tryz.prog 133 #[nV o,.func (.func 134) #[] #[]] W fun e w'=>e=.returned (.agg #[.string (bt 0 o.x.cs),.string (bt 1 o.x.cs),.string (bt 2 o.x.cs),.string (bt 3 o.x.cs)])∧Below W.heap.size W w'):=fun W hW=>ug_ lo o W hk (h0.next hW) (ht.next hW)
 have X:Hid (Box ((w.alloc (.cells (nL o).toArray 29)).alloc (.cells #[.string ⟨#[]⟩,.string ⟨#[]⟩,.string ⟨#[]⟩,.string ⟨#[]⟩] 110)) w.heap.size (nL o)∧Box ((w.alloc (.cells (nL o).toArray 29)).alloc (.cells #[.string ⟨#[]⟩,.string ⟨#[]⟩,.string ⟨#[]⟩,.string ⟨#[]⟩] 110)) (w.heap.size+1) [.string ⟨#[]⟩,.string ⟨#[]⟩,.string ⟨#[]⟩,.string ⟨#[]⟩]∧Below w.heap.size w ((w.alloc (.cells (nL o).toArray 29)).alloc (.cells #[.string ⟨#[]⟩,.string ⟨#[]⟩,.string ⟨#[]⟩,.string ⟨#[]⟩] 110))):=by
  have h1:Box ((w.alloc (.cells (nL o).toArray 29)).alloc (.cells #[.string ⟨#[]⟩,.string ⟨#[]⟩,.string ⟨#[]⟩,.string ⟨#[]⟩] 110)) (w.alloc (.cells (nL o).toArray 29)).heap.size [.string ⟨#[]⟩,.string ⟨#[]⟩,.string ⟨#[]⟩,.string ⟨#[]⟩]:=zo_
  have e1:(w.alloc (.cells (nL o).toArray 29)).heap.size=w.heap.size+1:=by simp
  rw [e1] at h1
  exact ⟨zo_.alloc,h1,(zb_ _ _).trans ((zb_ _ _).mono (by simp))⟩
 clear h0 ht hk
 go_enter Tryz.func72,Tryz.ntmps72
 go_upto_region 1 with fail
 generalize ((w.alloc (.cells (nL o).toArray 29)).alloc (.cells #[.string ⟨#[]⟩,.string ⟨#[]⟩,.string ⟨#[]⟩,.string ⟨#[]⟩] 110))=W0 at *
 obtain ⟨b0,b1,b2,b3,b4,b5,b6⟩:=X.out.1.c7
 go_wp2_with fail
 refine Calls.mono (CB.out _ X.out.2.2) ?_
 rintro e W1 ⟨rfl,hb⟩
 replace X:Hid (Box W1 (w.heap.size+1) [.string ⟨#[]⟩,.string ⟨#[]⟩,.string ⟨#[]⟩,.string ⟨#[]⟩]∧Below w.heap.size w W1):=⟨X.out.2.1.next hb,X.out.2.2.trans (hb.mono X.out.2.2.size)⟩
 clear hb CB b0 b1 b2 b3 b4 b5 b6
 obtain ⟨z0,z1,z2,z3⟩:=X.out.1.c4
 obtain ⟨f0,f1,f2,f3⟩:=X.out.1.f4
 go_wp2
 refine bodyPost_ret (v:=.agg #[.string (bt 0 o.x.cs),.string (bt 1 o.x.cs),.string (bt 2 o.x.cs),.string (bt 3 o.x.cs)]) (by simp [results,Tryz.results72,go_sem, *]) rfl ?_
 refine ⟨rfl,?_⟩
 exact (((X.out.2.setCell (by simp) _).setCell (by simp) _).setCell (by simp) _).setCell (by simp) _
end
theorem xQ_ (lo:Nat) (o:No) (b:Nat) (w:World) (hb4:b < 4) (hk:CsK o.x.cs) (h0:NoR lo w o) :
  Calls Tryz.prog 73 #[nV o,.int .i64 (b:Nat)] w fun e w'=>e=.returned (.string (bt b o.x.cs))∧Below w.heap.size w w':=by
 (try unfold nV)
 have H:Hid (NoR lo w o∧CsK o.x.cs):=⟨h0,hk⟩
 have hml:o.ms.length≤100:=by have:=hk.n; rw [h0.cs] at this; simpa using this
 have X:Hid (Box (w.alloc (.cells (nL o).toArray 29)) w.heap.size (nL o)∧Below w.heap.size w (w.alloc (.cells (nL o).toArray 29))):=⟨zo_,zb_ _ _⟩
 clear h0 hk
 go_enter Tryz.func73,Tryz.ntmps73
 go_upto_region 1 with fail
 generalize w.alloc (.cells (nL o).toArray 29)=W0 at *
 go_wp2
 go_loopw [5,6] (fun s5 s6 wr=>∃ (i:Nat) (out:ByteArray),i≤o.ms.length∧s6=.int .i64 i∧s5=.string out∧out=bt b (o.x.cs.take i)∧Box wr w.heap.size [.int .i64 o.x.id,.int .i64 o.x.n,.int .i64 o.x.cut,.slice o.p0 o.ms.length o.c0,.slice o.p1 o.x.fd.length o.c1,.slice o.p2 o.su.length o.c2,.slice o.p3 o.un.length o.c3]∧Below w.heap.size w wr) (fun _ s6 _=>o.ms.length - (intOf s6).toNat)
 case atStart=>exact ⟨0,_,by omega,rfl,rfl,by simp [bt],X.out⟩
 case round=>
  clear X
  obtain ⟨i,out,hil,rfl,rfl,hO0,hX⟩:=hrel
  have HO:=hm_ hO0
  have X:=hm_ hX
  clear hX hO0
  obtain ⟨b0,b1,b2,b3,b4,b5,b6⟩:=X.out.1.c7
  by_cases hkl:i < o.ms.length
  ·have hkl':(i:Int) < (o.ms.length:Int):=by omega
   have kk:(0:Int)≤(i:Int):=by omega
   rcases (H.out.1.r0.next X.out.2).cm with h' | ⟨q,off,hp,_,h2⟩
   ·rw [h'] at hkl; simp at hkl
   have XC:Hid (CmAt wr q (off+i * 5) o.ms[i]):=h2 i hkl
   have HM:Hid (o.ms[i] ∈ o.ms):=List.getElem_mem hkl
   have HT:Hid (o.x.cs.take (i+1)=o.x.cs.take i++[o.ms[i].c]):=ue_ H.out.1 hkl
   have HR:Hid (∀ W,Below w.heap.size w W→zk_ W o.ms[i].p o.ms[i].c.l):=fun W hW=>((H.out.1.rs _ HM.out).1.next hW).sib
   have HC:Hid (OkP o.ms[i].c.l o.ms[i].c.a o.ms[i].c.b o.ms[i].c.c∧keyP o.ms[i].c.k):=H.out.2.ok _ (by rw [H.out.1.cs]; exact List.mem_map_of_mem HM.out)
   unfold CmAt at XC
   generalize hC:o.ms[i].c=C at *
   generalize o.ms[i].p=mp at *
   generalize o.ms[i].q=mq at *
   have hks:C.k.size < 1099511627776:=by have:=HC.out.2.2.1; omega
   have CB:Hid (∀ W,Calls Tryz.prog 135 #[.string C.k] W fun e w'=>e=.returned (.int .i64 ((bkN C.k:Nat):Int))∧Below W.heap.size W w'):=fun W=>vd_ C.k W hks
   have hn4:bkN C.k < 4:=qV_ _
   have CL:Hid (∀ W,Below w.heap.size w W→Calls Tryz.prog 104 #[.agg #[.slice mp C.l.length mq,.int .i64 C.a,.int .i64 C.b,.int .i64 C.c]] W fun e w'=>e=.returned (.string (objB C))∧Below W.heap.size W w'):=fun W hW=>wg_ _ _ _ _ _ _ (vvT C.a C.b C.c) W (we_ HC.out.1.2.1) HC.out.1.1 (wS_ HC.out.1) (HR.out W hW) (vvS HC.out.1.2.1)
   have h1:=vO_ HC.out.1
   have h3:=HC.out.2.2.1
   have hsz:out.size≤140000000:=by rw [HO.out]; exact (H.out.2.take i).len b
   have q0:¬ 9223372036854775807 < C.k.size+1:=by omega
   have q1:¬ 9223372036854775807 < C.k.size+1+(objB C).size:=by omega
   have q2:¬ 9223372036854775807 < C.k.size+1+(objB C).size+1:=by omega
   have q3:¬ 9223372036854775807 < out.size+(C.k.size+1+(objB C).size+1):=by omega
   have HE:Hid ((bkN C.k=b→out++(C.k++⟨#[32]⟩++objB C++⟨#[10]⟩)=bt b (o.x.cs.take (i+1)))∧(bkN C.k≠b→out=bt b (o.x.cs.take (i+1)))):=⟨fun e=>by rw [HT.out,nY_ e,HO.out]; simp only [ByteArray.append_assoc],fun e=>by rw [HT.out,ob_ e,HO.out]⟩
   rw [hp] at b3
   clear h2 HM HT HR HC hks hC hp h1 h3 hsz HO
   obtain ⟨x0,x1,x2,x3,x4⟩:=XC.out
   go_wp2_with fail
   refine Calls.mono (CB.out _) ?_
   rintro e W1 ⟨rfl,hb⟩
   replace X:Hid (Box W1 w.heap.size (nL o)∧Below w.heap.size w W1):=⟨X.out.1.next hb,X.out.2.trans (hb.mono X.out.2.size)⟩
   replace x0:=za_ hb x0 (zg_ x0)
   replace x1:=za_ hb x1 (zg_ x1)
   replace x2:=za_ hb x2 (zg_ x2)
   replace x3:=za_ hb x3 (zg_ x3)
   replace x4:=za_ hb x4 (zg_ x4)
   replace b3:=za_ hb b3 (zg_ b3)
   clear hb CB b0 b1 b2 b4 b5 b6 XC
   by_cases hbe:bkN C.k=b
   focus
    have hbi:((bkN C.k:Nat):Int)=(b:Int):=by omega
    rw [hbi]
    have HF:=HE.out.1 hbe
    have HG:=hm_ HF
    clear HE HF hbe hbi hn4
    go_wp2_with fail
    refine wp_region_held_drew (S:=(fun w'=>w'.cell? ⟨w.heap.size,3,none⟩=some (.slice (some ⟨q,off,none⟩) o.ms.length o.c0)∧w'.cell? ⟨q,off+i * 5,none⟩=some (.string C.k)∧w'.cell? ⟨q,off+i * 5+1,none⟩=some (.slice mp C.l.length mq)∧w'.cell? ⟨q,off+i * 5+2,none⟩=some (.int .i64 C.a)∧w'.cell? ⟨q,off+i * 5+3,none⟩=some (.int .i64 C.b)∧w'.cell? ⟨q,off+i * 5+4,none⟩=some (.int .i64 C.c))) (by kernel_rfl) ?_ (fun hH=>?_)
    ·(try dsimp only)
     exact ⟨za_ (zc_ _) b3 (zg_ b3),za_ (zc_ _) x0 (zg_ x0),za_ (zc_ _) x1 (zg_ x1),za_ (zc_ _) x2 (zg_ x2),za_ (zc_ _) x3 (zg_ x3),za_ (zc_ _) x4 (zg_ x4)⟩
    replace X:Hid (Box W1.drew w.heap.size (nL o)∧Below w.heap.size w W1.drew):=⟨X.out.1.next (zc_ _),X.out.2.trans ((zc_ _).mono X.out.2.size)⟩
    clear b3 x0 x1 x2 x3 x4
    generalize W1.drew=wd at *
    refine wTk 0 ?_
    refine wTk 1 ?_
    refine wTk 2 ?_
    refine wTk 3 ?_
    refine wTk 4 ?_
    refine wTk 5 ?_
    refine wTk 6 ?_
    refine wTk 7 ?_
    refine wTk 8 ?_
    refine wTk 9 ?_
    refine wTk 10 ?_
    refine wTk 11 ?_
    refine wTk 12 ?_
    refine wTk 13 ?_
    refine wRd 14 (fun K hK=>?_)
    go_simp
    go_at_call 104
    refine Calls.mono (CL.out _ X.out.2) ?_
    rintro e W2 ⟨rfl,hb⟩
    replace X:Hid (Box W2 w.heap.size (nL o)∧Below w.heap.size w W2):=⟨X.out.1.next hb,X.out.2.trans (hb.mono X.out.2.size)⟩
    (try simp only [])
    refine wHk hK (⟨za_ hb hH.1 (zg_ hH.1),za_ hb hH.2.1 (zg_ hH.2.1),za_ hb hH.2.2.1 (zg_ hH.2.2.1),za_ hb hH.2.2.2.1 (zg_ hH.2.2.2.1),za_ hb hH.2.2.2.2.1 (zg_ hH.2.2.2.2.1),za_ hb hH.2.2.2.2.2 (zg_ hH.2.2.2.2.2)⟩) ?_
    clear hK K hH hb CL
    intro hH
    refine wTk 15 ?_
    refine wTk 16 ?_
    refine wTk 17 ?_
    refine wTk 18 ?_
    refine wDn ?_
    clear hH
   rotate_left
   focus
    have hbi:¬ ((bkN C.k:Nat):Int)=(b:Int):=by omega
    have HG:Hid (out=bt b (o.x.cs.take (i+1))):=HE.out.2 hbe
    clear HE hbe hn4
   rotate_left
   all_goals
    go_wp2
    go_roundw
    case rel=>exact ⟨i+1,_,by omega,by go_num,rfl,HG.out,X.out⟩
    case measure=>simp [intOf]; omega
  ·have hkl':¬ (i:Int) < (o.ms.length:Int):=by omega
   have e:o.x.cs.take i=o.x.cs:=by rw [List.take_of_length_le]; rw [H.out.1.cs]; simp; omega
   have HE:Hid (out=bt b o.x.cs):=by have:=HO.out; rw [e] at this; exact this
   clear HO e
   go_wp2
   go_ret
   exact ⟨by rw [HE.out]; rfl,X.out.2⟩
section
variable {W:World} {lo n:Nat} {p:Option Addr} {t:TypeId} {vs:List Value}
theorem elI:tQ_ Tryz.prog 44 3 1 8:=by
 refine ⟨Tryz.underlying44,?_,by decide,by decide⟩
 have hI:(Tryz.prog.info? 3).map (fun i=>(i.zero,i.size,i.bytes))=some (some (.int .i64 0),1,8):=by kernel_rfl
 obtain ⟨i0,hi,hz0,hz1,hz2⟩:=info_parts hI
 exact ⟨i0,_,hi,hz0,hz1,hz2,rfl⟩
theorem litG:GRow 0 (W.alloc (.cells vs.toArray t)) (some ⟨W.heap.size,0,none⟩) vs:=.inr ⟨_,0,rfl,Nat.zero_le _,fun j hj=>by rw [Nat.zero_add]; exact (zo_.is j hj).1⟩
theorem nq_ (a b c d:ByteArray) (w:World):(Instr.index 110 (.agg #[.string a,.string b,.string c,.string d]) (.int .i64 0)).run Tryz.prog w=.ok (.string a) w:=by kernel_rfl
theorem np_ (a b c d:ByteArray) (w:World):(Instr.index 110 (.agg #[.string a,.string b,.string c,.string d]) (.int .i64 1)).run Tryz.prog w=.ok (.string b) w:=by kernel_rfl
theorem no_ (a b c d:ByteArray) (w:World):(Instr.index 110 (.agg #[.string a,.string b,.string c,.string d]) (.int .i64 2)).run Tryz.prog w=.ok (.string c) w:=by kernel_rfl
theorem nn_ (a b c d:ByteArray) (w:World):(Instr.index 110 (.agg #[.string a,.string b,.string c,.string d]) (.int .i64 3)).run Tryz.prog w=.ok (.string d) w:=by kernel_rfl
def sums (cs:List Cl):List Int:=[((zv_ (bt 0 cs) (bt 0 cs).size:Nat):Int),((zv_ (bt 1 cs) (bt 1 cs).size:Nat):Int),((zv_ (bt 2 cs) (bt 2 cs).size:Nat):Int),((zv_ (bt 3 cs) (bt 3 cs).size:Nat):Int)]
def uj_ (xs:List Int) (w:World) (e:Ending) (w':World):Prop:=∃ p c,e=.returned (.tuple #[.slice p xs.length c,.int .i64 0])∧IRow w' p xs∧Below w.heap.size w w'
theorem vM_ {c:Nat} {xs:List Int} (h:OwnG W 3 1 (.slice p n c) n (xs.map (Value.int .i64)) lo) (hn:n=xs.length):IRow W p xs:=by
 subst hn
 obtain ⟨ao,cap,e,hI⟩:=ps_ h.own
 cases e
 exact hI
theorem sN_ (lo:Nat) (o:No) (w:World) (hk:CsK o.x.cs) (h0:NoR lo w o)
  (HN:Hid (∀ W,Below w.heap.size w W→Calls Tryz.prog 60 #[nV o] W fun e w'=>e=.returned (.bool true)∧Below W.heap.size W w')) :
  Calls Tryz.prog 31 #[nV o] w (uj_ (sums o.x.cs) w):=by
 (try unfold nV)
 have CT:Hid (∀ W (b:Nat),b < 4→Below w.heap.size w W→Calls Tryz.prog 73 #[nV o,.int .i64 (b:Nat)] W fun e w'=>e=.returned (.string (bt b o.x.cs))∧Below W.heap.size W w'):=fun W b hb hW=>xQ_ lo o b W hb hk (h0.next hW)
 have CS:Hid (∀ W b,Calls Tryz.prog 75 #[.string (bt b o.x.cs)] W fun e w'=>e=.returned (.int .i64 ((zv_ (bt b o.x.cs) (bt b o.x.cs).size:Nat):Int))∧Below W.heap.size W w'):=fun W b=>xP_ _ W (by have:=hk.len b; omega)
 have X:Hid (Box (w.alloc (.cells (nL o).toArray 29)) w.heap.size (nL o)∧Below w.heap.size w (w.alloc (.cells (nL o).toArray 29))):=⟨zo_,zb_ _ _⟩
 clear hk h0
 go_enter Tryz.func31,Tryz.ntmps31
 go_upto_region 1 with fail
 generalize (w.alloc (.cells (nL o).toArray 29))=W0 at *
 obtain ⟨b0,b1,b2,b3,b4,b5,b6⟩:=X.out.1.c7
 go_wp2_with fail
 refine Calls.mono (HN.out _ X.out.2) ?_
 rintro e W1 ⟨rfl,hb⟩
 replace X:Hid (Box W1 w.heap.size (nL o)∧Below w.heap.size w W1):=⟨X.out.1.next hb,X.out.2.trans (hb.mono X.out.2.size)⟩
 clear hb HN b0 b1 b2 b3 b4 b5 b6
 go_upto_region 4 with fail
 have O:Hid (OwnG (W1.alloc (.cells #[] 3)) 3 1 (.slice (some ⟨W1.heap.size,0,none⟩) 0 0) 0 [] (w.heap.size+1)):=OwnG.lit X.out.1.lt
 replace X:Hid (Box (W1.alloc (.cells #[] 3)) w.heap.size (nL o)∧Below w.heap.size w (W1.alloc (.cells #[] 3))):=⟨X.out.1.alloc,X.out.2.trans ((zb_ _ _).mono X.out.2.size)⟩
 generalize W1.heap.size=g4 at *
 generalize W1.alloc (.cells #[] 3)=V0 at *
 go_wp2
 refine wp_loop_rounds 5 ?_
 rw [rounds_succ]
 obtain ⟨b0,b1,b2,b3,b4,b5,b6⟩:=X.out.1.c7
 go_wp2_with fail
 refine Calls.mono (CT.out _ 0 (by decide) X.out.2) ?_
 rintro e A0 ⟨rfl,hb⟩
 replace X:Hid (Box A0 w.heap.size (nL o)∧Below w.heap.size w A0):=⟨X.out.1.next hb,X.out.2.trans (hb.mono X.out.2.size)⟩
 replace O:=hm_ (O.out.next hb)
 clear hb b0 b1 b2 b3 b4 b5 b6
 go_wp2_with fail
 refine Calls.mono (CS.out _ 0) ?_
 rintro e B0 ⟨rfl,hb⟩
 replace X:Hid (Box B0 w.heap.size (nL o)∧Below w.heap.size w B0):=⟨X.out.1.next hb,X.out.2.trans (hb.mono X.out.2.size)⟩
 replace O:=hm_ (O.out.next hb)
 clear hb
 have hl:w.heap.size+1≤B0.heap.size:=X.out.1.lt
 go_wp2_with (first | (at_builtin; refine zB_ elI rfl _ _ rfl (.slice (some ⟨g4,0,none⟩) 0 0) 0 [] (w.heap.size+1) 1 rfl (O.out.next (zb_ _ _)) (by simp; omega) (some ⟨B0.heap.size,0,none⟩) 1 1 [.int .i64 ((zv_ (bt 0 o.x.cs) (bt 0 o.x.cs).size:Nat):Int)] rfl rfl (by simp [Value.oneCell']) 0 litG (by omega) rfl ?_) | go_in)
 intro vo0 vc0 V1 hO hG hS
 replace X:Hid (Box V1 w.heap.size (nL o)∧Below w.heap.size w V1):=⟨X.out.1.alloc.gro hG (fun e=>by have:=O.out.ge _ e; omega),(X.out.2.trans ((zb_ _ _).mono X.out.2.size)).trans (hG.below (by simp; omega) (fun q hq=>by have:=O.out.ge q hq; omega))⟩
 replace O:=hm_ hO
 clear hO hG hS hl
 go_wp2
 rw [rounds_succ]
 obtain ⟨b0,b1,b2,b3,b4,b5,b6⟩:=X.out.1.c7
 go_wp2_with fail
 refine Calls.mono (CT.out _ 1 (by decide) X.out.2) ?_
 rintro e A1 ⟨rfl,hb⟩
 replace X:Hid (Box A1 w.heap.size (nL o)∧Below w.heap.size w A1):=⟨X.out.1.next hb,X.out.2.trans (hb.mono X.out.2.size)⟩
 replace O:=hm_ (O.out.next hb)
 clear hb b0 b1 b2 b3 b4 b5 b6
 go_wp2_with fail
 refine Calls.mono (CS.out _ 1) ?_
 rintro e B1 ⟨rfl,hb⟩
 replace X:Hid (Box B1 w.heap.size (nL o)∧Below w.heap.size w B1):=⟨X.out.1.next hb,X.out.2.trans (hb.mono X.out.2.size)⟩
 replace O:=hm_ (O.out.next hb)
 clear hb
 have hl:w.heap.size+1≤B1.heap.size:=X.out.1.lt
 go_wp2_with (first | (at_builtin; refine zB_ elI rfl _ _ rfl (.slice vo0 1 vc0) 1 [.int .i64 ((zv_ (bt 0 o.x.cs) (bt 0 o.x.cs).size:Nat):Int)] (w.heap.size+1) 2 rfl (O.out.next (zb_ _ _)) (by simp; omega) (some ⟨B1.heap.size,0,none⟩) 1 1 [.int .i64 ((zv_ (bt 1 o.x.cs) (bt 1 o.x.cs).size:Nat):Int)] rfl rfl (by simp [Value.oneCell']) 0 litG (by omega) rfl ?_) | go_in)
 intro vo1 vc1 V2 hO hG hS
 replace X:Hid (Box V2 w.heap.size (nL o)∧Below w.heap.size w V2):=⟨X.out.1.alloc.gro hG (fun e=>by have:=O.out.ge _ e; omega),(X.out.2.trans ((zb_ _ _).mono X.out.2.size)).trans (hG.below (by simp; omega) (fun q hq=>by have:=O.out.ge q hq; omega))⟩
 replace O:=hm_ hO
 clear hO hG hS hl
 go_wp2
 rw [rounds_succ]
 obtain ⟨b0,b1,b2,b3,b4,b5,b6⟩:=X.out.1.c7
 go_wp2_with fail
 refine Calls.mono (CT.out _ 2 (by decide) X.out.2) ?_
 rintro e A2 ⟨rfl,hb⟩
 replace X:Hid (Box A2 w.heap.size (nL o)∧Below w.heap.size w A2):=⟨X.out.1.next hb,X.out.2.trans (hb.mono X.out.2.size)⟩
 replace O:=hm_ (O.out.next hb)
 clear hb b0 b1 b2 b3 b4 b5 b6
 go_wp2_with fail
 refine Calls.mono (CS.out _ 2) ?_
 rintro e B2 ⟨rfl,hb⟩
 replace X:Hid (Box B2 w.heap.size (nL o)∧Below w.heap.size w B2):=⟨X.out.1.next hb,X.out.2.trans (hb.mono X.out.2.size)⟩
 replace O:=hm_ (O.out.next hb)
 clear hb
 have hl:w.heap.size+1≤B2.heap.size:=X.out.1.lt
 go_wp2_with (first | (at_builtin; refine zB_ elI rfl _ _ rfl (.slice vo1 2 vc1) 2 [.int .i64 ((zv_ (bt 0 o.x.cs) (bt 0 o.x.cs).size:Nat):Int),.int .i64 ((zv_ (bt 1 o.x.cs) (bt 1 o.x.cs).size:Nat):Int)] (w.heap.size+1) 3 rfl (O.out.next (zb_ _ _)) (by simp; omega) (some ⟨B2.heap.size,0,none⟩) 1 1 [.int .i64 ((zv_ (bt 2 o.x.cs) (bt 2 o.x.cs).size:Nat):Int)] rfl rfl (by simp [Value.oneCell']) 0 litG (by omega) rfl ?_) | go_in)
 intro vo2 vc2 V3 hO hG hS
 replace X:Hid (Box V3 w.heap.size (nL o)∧Below w.heap.size w V3):=⟨X.out.1.alloc.gro hG (fun e=>by have:=O.out.ge _ e; omega),(X.out.2.trans ((zb_ _ _).mono X.out.2.size)).trans (hG.below (by simp; omega) (fun q hq=>by have:=O.out.ge q hq; omega))⟩
 replace O:=hm_ hO
 clear hO hG hS hl
 go_wp2
 rw [rounds_succ]
 obtain ⟨b0,b1,b2,b3,b4,b5,b6⟩:=X.out.1.c7
 go_wp2_with fail
 refine Calls.mono (CT.out _ 3 (by decide) X.out.2) ?_
 rintro e A3 ⟨rfl,hb⟩
 replace X:Hid (Box A3 w.heap.size (nL o)∧Below w.heap.size w A3):=⟨X.out.1.next hb,X.out.2.trans (hb.mono X.out.2.size)⟩
 replace O:=hm_ (O.out.next hb)
 clear hb b0 b1 b2 b3 b4 b5 b6
 go_wp2_with fail
 refine Calls.mono (CS.out _ 3) ?_
 rintro e B3 ⟨rfl,hb⟩
 replace X:Hid (Box B3 w.heap.size (nL o)∧Below w.heap.size w B3):=⟨X.out.1.next hb,X.out.2.trans (hb.mono X.out.2.size)⟩
 replace O:=hm_ (O.out.next hb)
 clear hb
 have hl:w.heap.size+1≤B3.heap.size:=X.out.1.lt
 go_wp2_with (first | (at_builtin; refine zB_ elI rfl _ _ rfl (.slice vo2 3 vc2) 3 [.int .i64 ((zv_ (bt 0 o.x.cs) (bt 0 o.x.cs).size:Nat):Int),.int .i64 ((zv_ (bt 1 o.x.cs) (bt 1 o.x.cs).size:Nat):Int),.int .i64 ((zv_ (bt 2 o.x.cs) (bt 2 o.x.cs).size:Nat):Int)] (w.heap.size+1) 4 rfl (O.out.next (zb_ _ _)) (by simp; omega) (some ⟨B3.heap.size,0,none⟩) 1 1 [.int .i64 ((zv_ (bt 3 o.x.cs) (bt 3 o.x.cs).size:Nat):Int)] rfl rfl (by simp [Value.oneCell']) 0 litG (by omega) rfl ?_) | go_in)
 intro vo3 vc3 V4 hO hG hS
 replace X:Hid (Box V4 w.heap.size (nL o)∧Below w.heap.size w V4):=⟨X.out.1.alloc.gro hG (fun e=>by have:=O.out.ge _ e; omega),(X.out.2.trans ((zb_ _ _).mono X.out.2.size)).trans (hG.below (by simp; omega) (fun q hq=>by have:=O.out.ge q hq; omega))⟩
 replace O:=hm_ hO
 clear hO hG hS hl
 go_wp2
 rw [rounds_succ]
 go_wp2
 go_ret2
 exact ⟨vo3,vc3,rfl,vM_ (xs:=sums o.x.cs) O.out rfl,X.out.2⟩
theorem rg_ (lo:Nat) (o:No) (w:World) (hk:CsK o.x.cs) (h0:NoR lo w o) (ht:TB w)
  (HN:Hid (∀ W,Below w.heap.size w W→Calls Tryz.prog 17 #[nV o] W fun e w'=>e=.returned (.bool true)∧Below W.heap.size W w')) :
  Calls Tryz.prog 30 #[nV o] w (uj_ (sums o.x.cs) w):=by
 (try unfold nV)
 have CT:Hid (∀ W,Below w.heap.size w W→Calls Tryz.prog 72 #[nV o] W fun e w'=>e=.returned (.agg #[.string (bt 0 o.x.cs),.string (bt 1 o.x.cs),.string (bt 2 o.x.cs),.string (bt 3 o.x.cs)])∧Below W.heap.size W w'):=fun W hW=>ya_ lo o W hk (h0.next hW) (ht.next hW)
 have CS:Hid (∀ W b,Calls Tryz.prog 74 #[.string (bt b o.x.cs)] W fun e w'=>e=.returned (.int .i64 ((zv_ (bt b o.x.cs) (bt b o.x.cs).size:Nat):Int))∧Below W.heap.size W w'):=fun W b=>xS_ _ W (by have:=hk.len b; omega)
 have X:Hid (Box (w.alloc (.cells (nL o).toArray 29)) w.heap.size (nL o)∧Below w.heap.size w (w.alloc (.cells (nL o).toArray 29))):=⟨zo_,zb_ _ _⟩
 clear hk h0 ht
 go_enter Tryz.func30,Tryz.ntmps30
 go_upto_region 1 with fail
 generalize (w.alloc (.cells (nL o).toArray 29))=W0 at *
 obtain ⟨b0,b1,b2,b3,b4,b5,b6⟩:=X.out.1.c7
 go_wp2_with fail
 refine Calls.mono (HN.out _ X.out.2) ?_
 rintro e W1 ⟨rfl,hb⟩
 replace X:Hid (Box W1 w.heap.size (nL o)∧Below w.heap.size w W1):=⟨X.out.1.next hb,X.out.2.trans (hb.mono X.out.2.size)⟩
 clear hb HN b0 b1 b2 b3 b4 b5 b6
 go_upto_region 4 with fail
 have Y:Hid (Box (W1.alloc (.cells #[.int .i64 0,.int .i64 0,.int .i64 0,.int .i64 0] 113)) w.heap.size (nL o)∧Box (W1.alloc (.cells #[.int .i64 0,.int .i64 0,.int .i64 0,.int .i64 0] 113)) W1.heap.size [.int .i64 0,.int .i64 0,.int .i64 0,.int .i64 0]∧Below w.heap.size w (W1.alloc (.cells #[.int .i64 0,.int .i64 0,.int .i64 0,.int .i64 0] 113))∧w.heap.size < W1.heap.size):=⟨X.out.1.alloc,zo_,X.out.2.trans ((zb_ _ _).mono X.out.2.size),X.out.1.lt⟩
 clear X
 generalize W1.heap.size=g4 at *
 generalize W1.alloc (.cells #[.int .i64 0,.int .i64 0,.int .i64 0,.int .i64 0] 113)=V0 at *
 obtain ⟨b0,b1,b2,b3,b4,b5,b6⟩:=Y.out.1.c7
 go_wp2_with fail
 refine Calls.mono (CT.out _ Y.out.2.2.1) ?_
 rintro e V1 ⟨rfl,hb⟩
 replace Y:Hid (Box V1 w.heap.size (nL o)∧Box V1 g4 [.int .i64 0,.int .i64 0,.int .i64 0,.int .i64 0]∧Below w.heap.size w V1∧w.heap.size < g4):=⟨Y.out.1.next hb,Y.out.2.1.next hb,Y.out.2.2.1.trans (hb.mono Y.out.2.2.1.size),Y.out.2.2.2⟩
 clear hb CT b0 b1 b2 b3 b4 b5 b6
 have j0:=nq_ (bt 0 o.x.cs) (bt 1 o.x.cs) (bt 2 o.x.cs) (bt 3 o.x.cs)
 have j1:=np_ (bt 0 o.x.cs) (bt 1 o.x.cs) (bt 2 o.x.cs) (bt 3 o.x.cs)
 have j2:=no_ (bt 0 o.x.cs) (bt 1 o.x.cs) (bt 2 o.x.cs) (bt 3 o.x.cs)
 have j3:=nn_ (bt 0 o.x.cs) (bt 1 o.x.cs) (bt 2 o.x.cs) (bt 3 o.x.cs)
 go_wp2
 refine wp_loop_rounds 5 ?_
 rw [rounds_succ]
 go_wp2_with fail
 refine Calls.mono (CS.out _ 0) ?_
 rintro e C0 ⟨rfl,hb⟩
 replace Y:Hid (Box C0 w.heap.size (nL o)∧Box C0 g4 [.int .i64 0,.int .i64 0,.int .i64 0,.int .i64 0]∧Below w.heap.size w C0∧w.heap.size < g4):=⟨Y.out.1.next hb,Y.out.2.1.next hb,Y.out.2.2.1.trans (hb.mono Y.out.2.2.1.size),Y.out.2.2.2⟩
 clear hb
 have y0:C0.cell? ⟨g4,0,none⟩=some (.int .i64 0):=(Y.out.2.1.is 0 (by simp)).1
 have f0:C0.frozen? ⟨g4,0,none⟩=false:=(Y.out.2.1.is 0 (by simp)).2
 replace Y:Hid (Box (C0.setCell ⟨g4,0,none⟩ (.int .i64 ((zv_ (bt 0 o.x.cs) (bt 0 o.x.cs).size:Nat):Int))) w.heap.size (nL o)∧Box (C0.setCell ⟨g4,0,none⟩ (.int .i64 ((zv_ (bt 0 o.x.cs) (bt 0 o.x.cs).size:Nat):Int))) g4 [.int .i64 ((zv_ (bt 0 o.x.cs) (bt 0 o.x.cs).size:Nat):Int),.int .i64 0,.int .i64 0,.int .i64 0]∧Below w.heap.size w (C0.setCell ⟨g4,0,none⟩ (.int .i64 ((zv_ (bt 0 o.x.cs) (bt 0 o.x.cs).size:Nat):Int)))∧w.heap.size < g4):=⟨Y.out.1.oth (by have:=Y.out.2.2.2; omega),by have h:=Y.out.2.1.set (i:=0) (u:=.int .i64 ((zv_ (bt 0 o.x.cs) (bt 0 o.x.cs).size:Nat):Int)) (by simp); simpa using h,Y.out.2.2.1.setCell (by have:=Y.out.2.2.2; show _≤_; dsimp only; omega) _,Y.out.2.2.2⟩
 go_wp2
 clear y0 f0
 generalize C0.setCell ⟨g4,0,none⟩ (.int .i64 ((zv_ (bt 0 o.x.cs) (bt 0 o.x.cs).size:Nat):Int))=D0 at *
 rw [rounds_succ]
 go_wp2_with fail
 refine Calls.mono (CS.out _ 1) ?_
 rintro e C1 ⟨rfl,hb⟩
 replace Y:Hid (Box C1 w.heap.size (nL o)∧Box C1 g4 [.int .i64 ((zv_ (bt 0 o.x.cs) (bt 0 o.x.cs).size:Nat):Int),.int .i64 0,.int .i64 0,.int .i64 0]∧Below w.heap.size w C1∧w.heap.size < g4):=⟨Y.out.1.next hb,Y.out.2.1.next hb,Y.out.2.2.1.trans (hb.mono Y.out.2.2.1.size),Y.out.2.2.2⟩
 clear hb
 have y0:C1.cell? ⟨g4,1,none⟩=some (.int .i64 0):=(Y.out.2.1.is 1 (by simp)).1
 have f0:C1.frozen? ⟨g4,1,none⟩=false:=(Y.out.2.1.is 1 (by simp)).2
 replace Y:Hid (Box (C1.setCell ⟨g4,1,none⟩ (.int .i64 ((zv_ (bt 1 o.x.cs) (bt 1 o.x.cs).size:Nat):Int))) w.heap.size (nL o)∧Box (C1.setCell ⟨g4,1,none⟩ (.int .i64 ((zv_ (bt 1 o.x.cs) (bt 1 o.x.cs).size:Nat):Int))) g4 [.int .i64 ((zv_ (bt 0 o.x.cs) (bt 0 o.x.cs).size:Nat):Int),.int .i64 ((zv_ (bt 1 o.x.cs) (bt 1 o.x.cs).size:Nat):Int),.int .i64 0,.int .i64 0]∧Below w.heap.size w (C1.setCell ⟨g4,1,none⟩ (.int .i64 ((zv_ (bt 1 o.x.cs) (bt 1 o.x.cs).size:Nat):Int)))∧w.heap.size < g4):=⟨Y.out.1.oth (by have:=Y.out.2.2.2; omega),by have h:=Y.out.2.1.set (i:=1) (u:=.int .i64 ((zv_ (bt 1 o.x.cs) (bt 1 o.x.cs).size:Nat):Int)) (by simp); simpa using h,Y.out.2.2.1.setCell (by have:=Y.out.2.2.2; show _≤_; dsimp only; omega) _,Y.out.2.2.2⟩
 go_wp2
 clear y0 f0
 generalize C1.setCell ⟨g4,1,none⟩ (.int .i64 ((zv_ (bt 1 o.x.cs) (bt 1 o.x.cs).size:Nat):Int))=D1 at *
 rw [rounds_succ]
 go_wp2_with fail
 refine Calls.mono (CS.out _ 2) ?_
 rintro e C2 ⟨rfl,hb⟩
 replace Y:Hid (Box C2 w.heap.size (nL o)∧Box C2 g4 [.int .i64 ((zv_ (bt 0 o.x.cs) (bt 0 o.x.cs).size:Nat):Int),.int .i64 ((zv_ (bt 1 o.x.cs) (bt 1 o.x.cs).size:Nat):Int),.int .i64 0,.int .i64 0]∧Below w.heap.size w C2∧w.heap.size < g4):=⟨Y.out.1.next hb,Y.out.2.1.next hb,Y.out.2.2.1.trans (hb.mono Y.out.2.2.1.size),Y.out.2.2.2⟩
 clear hb
 have y0:C2.cell? ⟨g4,2,none⟩=some (.int .i64 0):=(Y.out.2.1.is 2 (by simp)).1
 have f0:C2.frozen? ⟨g4,2,none⟩=false:=(Y.out.2.1.is 2 (by simp)).2
 replace Y:Hid (Box (C2.setCell ⟨g4,2,none⟩ (.int .i64 ((zv_ (bt 2 o.x.cs) (bt 2 o.x.cs).size:Nat):Int))) w.heap.size (nL o)∧Box (C2.setCell ⟨g4,2,none⟩ (.int .i64 ((zv_ (bt 2 o.x.cs) (bt 2 o.x.cs).size:Nat):Int))) g4 [.int .i64 ((zv_ (bt 0 o.x.cs) (bt 0 o.x.cs).size:Nat):Int),.int .i64 ((zv_ (bt 1 o.x.cs) (bt 1 o.x.cs).size:Nat):Int),.int .i64 ((zv_ (bt 2 o.x.cs) (bt 2 o.x.cs).size:Nat):Int),.int .i64 0]∧Below w.heap.size w (C2.setCell ⟨g4,2,none⟩ (.int .i64 ((zv_ (bt 2 o.x.cs) (bt 2 o.x.cs).size:Nat):Int)))∧w.heap.size < g4):=⟨Y.out.1.oth (by have:=Y.out.2.2.2; omega),by have h:=Y.out.2.1.set (i:=2) (u:=.int .i64 ((zv_ (bt 2 o.x.cs) (bt 2 o.x.cs).size:Nat):Int)) (by simp); simpa using h,Y.out.2.2.1.setCell (by have:=Y.out.2.2.2; show _≤_; dsimp only; omega) _,Y.out.2.2.2⟩
 go_wp2
 clear y0 f0
 generalize C2.setCell ⟨g4,2,none⟩ (.int .i64 ((zv_ (bt 2 o.x.cs) (bt 2 o.x.cs).size:Nat):Int))=D2 at *
 rw [rounds_succ]
 go_wp2_with fail
 refine Calls.mono (CS.out _ 3) ?_
 rintro e C3 ⟨rfl,hb⟩
 replace Y:Hid (Box C3 w.heap.size (nL o)∧Box C3 g4 [.int .i64 ((zv_ (bt 0 o.x.cs) (bt 0 o.x.cs).size:Nat):Int),.int .i64 ((zv_ (bt 1 o.x.cs) (bt 1 o.x.cs).size:Nat):Int),.int .i64 ((zv_ (bt 2 o.x.cs) (bt 2 o.x.cs).size:Nat):Int),.int .i64 0]∧Below w.heap.size w C3∧w.heap.size < g4):=⟨Y.out.1.next hb,Y.out.2.1.next hb,Y.out.2.2.1.trans (hb.mono Y.out.2.2.1.size),Y.out.2.2.2⟩
 clear hb
 have y0:C3.cell? ⟨g4,3,none⟩=some (.int .i64 0):=(Y.out.2.1.is 3 (by simp)).1
 have f0:C3.frozen? ⟨g4,3,none⟩=false:=(Y.out.2.1.is 3 (by simp)).2
 replace Y:Hid (Box (C3.setCell ⟨g4,3,none⟩ (.int .i64 ((zv_ (bt 3 o.x.cs) (bt 3 o.x.cs).size:Nat):Int))) w.heap.size (nL o)∧Box (C3.setCell ⟨g4,3,none⟩ (.int .i64 ((zv_ (bt 3 o.x.cs) (bt 3 o.x.cs).size:Nat):Int))) g4 [.int .i64 ((zv_ (bt 0 o.x.cs) (bt 0 o.x.cs).size:Nat):Int),.int .i64 ((zv_ (bt 1 o.x.cs) (bt 1 o.x.cs).size:Nat):Int),.int .i64 ((zv_ (bt 2 o.x.cs) (bt 2 o.x.cs).size:Nat):Int),.int .i64 ((zv_ (bt 3 o.x.cs) (bt 3 o.x.cs).size:Nat):Int)]∧Below w.heap.size w (C3.setCell ⟨g4,3,none⟩ (.int .i64 ((zv_ (bt 3 o.x.cs) (bt 3 o.x.cs).size:Nat):Int)))∧w.heap.size < g4):=⟨Y.out.1.oth (by have:=Y.out.2.2.2; omega),by have h:=Y.out.2.1.set (i:=3) (u:=.int .i64 ((zv_ (bt 3 o.x.cs) (bt 3 o.x.cs).size:Nat):Int)) (by simp); simpa using h,Y.out.2.2.1.setCell (by have:=Y.out.2.2.2; show _≤_; dsimp only; omega) _,Y.out.2.2.2⟩
 go_wp2
 clear y0 f0
 generalize C3.setCell ⟨g4,3,none⟩ (.int .i64 ((zv_ (bt 3 o.x.cs) (bt 3 o.x.cs).size:Nat):Int))=D3 at *
 rw [rounds_succ]
 go_wp2
 go_ret2
 refine ⟨some ⟨g4,0,none⟩,4,rfl,.inr ⟨g4,0,rfl,fun i hi=>?_⟩,Y.out.2.2.1⟩
 have h:=(Y.out.2.1.is i (by simpa [sums] using hi)).1
 have hi4:i < 4:=by simpa [sums] using hi
 rw [Nat.zero_add,h]
 rcases (by omega:i=0∨i=1∨i=2∨i=3) with rfl | rfl | rfl | rfl <;> rfl
end
section
variable {W:World} {f:Nat→ByteArray} {g k:Nat} {u0 u1 u2 u3 u4 u5 u6 v0 v1 v2 v3 v4 v5 v6:Value}
def dif (f g:Nat→ByteArray) (k:Nat):List Int:=((List.range k).filter (fun j=>decide (f j≠g j))).map (fun j=>((j:Nat):Int))
theorem sA_ {g:Nat→ByteArray} (h:f k=g k):dif f g (k+1)=dif f g k:=by simp [dif,List.range_succ,List.filter_append,h]
theorem uZ_ {g:Nat→ByteArray} (h:f k≠g k):dif f g (k+1)=dif f g k++[((k:Nat):Int)]:=by simp [dif,List.range_succ,List.filter_append,h]
theorem tN_ (f g:Nat→ByteArray) (k:Nat):(dif f g k).length≤k:=by
 have:=List.length_filter_le (fun j=>decide (f j≠g j)) (List.range k)
 simp [dif] at this ⊢
 exact this
theorem pP_ (f:Nat→ByteArray) (k:Nat):dif f f k=[]:=by simp [dif]
theorem c14 {h:Nat} (a:Box W g [v0,v1,v2,v3,v4,v5,v6]) (b:Box W h [u0,u1,u2,u3,u4,u5,u6]):W.cell? ⟨g,0,none⟩=some v0∧W.cell? ⟨g,1,none⟩=some v1∧W.cell? ⟨g,2,none⟩=some v2∧W.cell? ⟨g,3,none⟩=some v3∧W.cell? ⟨g,4,none⟩=some v4∧W.cell? ⟨g,5,none⟩=some v5∧W.cell? ⟨g,6,none⟩=some v6∧W.cell? ⟨h,0,none⟩=some u0∧W.cell? ⟨h,1,none⟩=some u1∧W.cell? ⟨h,2,none⟩=some u2∧W.cell? ⟨h,3,none⟩=some u3∧W.cell? ⟨h,4,none⟩=some u4∧W.cell? ⟨h,5,none⟩=some u5∧W.cell? ⟨h,6,none⟩=some u6:=by
 obtain ⟨a0,a1,a2,a3,a4,a5,a6⟩:=a.c7
 exact ⟨a0,a1,a2,a3,a4,a5,a6,b.c7⟩
theorem pa_ (o u:No) (f g:Nat→ByteArray) (w:World)
  (HA:Hid (∀ W,Below w.heap.size w W→Calls Tryz.prog 60 #[nV o] W fun e w'=>e=.returned (.bool true)∧Below W.heap.size W w'))
  (HB:Hid (∀ W,Below w.heap.size w W→Calls Tryz.prog 60 #[nV u] W fun e w'=>e=.returned (.bool true)∧Below W.heap.size W w'))
  (CA:Hid (∀ W (b:Nat),b < 4→Below w.heap.size w W→Calls Tryz.prog 73 #[nV o,.int .i64 (b:Nat)] W fun e w'=>e=.returned (.string (f b))∧Below W.heap.size W w'))
  (CB:Hid (∀ W (b:Nat),b < 4→Below w.heap.size w W→Calls Tryz.prog 73 #[nV u,.int .i64 (b:Nat)] W fun e w'=>e=.returned (.string (g b))∧Below W.heap.size W w')) :
  Calls Tryz.prog 29 #[nV o,nV u] w (uj_ (dif f g 4) w):=by
 (try unfold nV)
 have X:Hid (Box ((w.alloc (.cells (nL o).toArray 29)).alloc (.cells (nL u).toArray 29)) w.heap.size (nL o)∧Box ((w.alloc (.cells (nL o).toArray 29)).alloc (.cells (nL u).toArray 29)) (w.heap.size+1) (nL u)∧Below w.heap.size w ((w.alloc (.cells (nL o).toArray 29)).alloc (.cells (nL u).toArray 29))):=by
  have h1:Box ((w.alloc (.cells (nL o).toArray 29)).alloc (.cells (nL u).toArray 29)) (w.alloc (.cells (nL o).toArray 29)).heap.size (nL u):=zo_
  have e1:(w.alloc (.cells (nL o).toArray 29)).heap.size=w.heap.size+1:=by simp
  rw [e1] at h1
  exact ⟨zo_.alloc,h1,(zb_ _ _).trans ((zb_ _ _).mono (by simp))⟩
 go_enter Tryz.func29,Tryz.ntmps29
 go_upto_region 1 with fail
 generalize ((w.alloc (.cells (nL o).toArray 29)).alloc (.cells (nL u).toArray 29))=W0 at *
 obtain ⟨b0,b1,b2,b3,b4,b5,b6⟩:=X.out.1.c7
 obtain ⟨d0,d1,d2,d3,d4,d5,d6⟩:=X.out.2.1.c7
 go_wp2_with fail
 refine Calls.mono (HA.out _ X.out.2.2) ?_
 rintro e W1 ⟨rfl,hb⟩
 replace X:Hid (Box W1 w.heap.size (nL o)∧Box W1 (w.heap.size+1) (nL u)∧Below w.heap.size w W1):=⟨X.out.1.next hb,X.out.2.1.next hb,X.out.2.2.trans (hb.mono X.out.2.2.size)⟩
 clear hb b0 b1 b2 b3 b4 b5 b6 d0 d1 d2 d3 d4 d5 d6
 obtain ⟨b0,b1,b2,b3,b4,b5,b6⟩:=X.out.1.c7
 obtain ⟨d0,d1,d2,d3,d4,d5,d6⟩:=X.out.2.1.c7
 go_wp2_with fail
 refine Calls.mono (HB.out _ X.out.2.2) ?_
 rintro e W2 ⟨rfl,hb⟩
 replace X:Hid (Box W2 w.heap.size (nL o)∧Box W2 (w.heap.size+1) (nL u)∧Below w.heap.size w W2):=⟨X.out.1.next hb,X.out.2.1.next hb,X.out.2.2.trans (hb.mono X.out.2.2.size)⟩
 clear hb b0 b1 b2 b3 b4 b5 b6 d0 d1 d2 d3 d4 d5 d6 HA HB
 go_upto_region 4 with fail
 have O:Hid (OwnG (W2.alloc (.cells #[] 3)) 3 1 (.slice (some ⟨W2.heap.size,0,none⟩) 0 0) 0 [] (w.heap.size+1+1)):=OwnG.lit X.out.2.1.lt
 replace X:Hid (Box (W2.alloc (.cells #[] 3)) w.heap.size (nL o)∧Box (W2.alloc (.cells #[] 3)) (w.heap.size+1) (nL u)∧Below w.heap.size w (W2.alloc (.cells #[] 3))):=⟨X.out.1.alloc,X.out.2.1.alloc,X.out.2.2.trans ((zb_ _ _).mono X.out.2.2.size)⟩
 generalize W2.heap.size=g4 at *
 generalize W2.alloc (.cells #[] 3)=V0 at *
 go_wp2
 go_loopw [6,7] (fun s6 s7 wr=>∃ (k:Nat) (p:Option Addr) (n c:Nat),k≤4∧s7=.int .i64 k∧s6=.slice p n c∧n=(dif f g k).length∧OwnG wr 3 1 (.slice p n c) n ((dif f g k).map (Value.int .i64)) (w.heap.size+1+1)∧Box wr w.heap.size [.int .i64 o.x.id,.int .i64 o.x.n,.int .i64 o.x.cut,.slice o.p0 o.ms.length o.c0,.slice o.p1 o.x.fd.length o.c1,.slice o.p2 o.su.length o.c2,.slice o.p3 o.un.length o.c3]∧Box wr (w.heap.size+1) [.int .i64 u.x.id,.int .i64 u.x.n,.int .i64 u.x.cut,.slice u.p0 u.ms.length u.c0,.slice u.p1 u.x.fd.length u.c1,.slice u.p2 u.su.length u.c2,.slice u.p3 u.un.length u.c3]∧Below w.heap.size w wr) (fun _ s7 _=>4 - (intOf s7).toNat)
 case atStart=>exact ⟨0,_,_,_,by omega,rfl,rfl,by simp [dif],by simpa [dif] using O.out,X.out⟩
 case round=>
  clear X O
  obtain ⟨k,p,n,c,hk4,rfl,rfl,hn0,hO,hX⟩:=hrel
  have HNL:=hm_ hn0
  have hn4:n≤4:=by have:=tN_ f g k; omega
  have O:=hm_ hO
  have X:=hm_ hX
  clear hO hX hn0
  by_cases hk:k < 4
  ·have hk':(k:Int) < 4:=by omega
   have HK:Hid (k < 4):=hk
   by_cases he:f k=g k
   ·have tq:=ul_ he
    have HS:Hid (dif f g (k+1)=dif f g k):=sA_ he
    clear he
    go_wp2_with fail
    refine wp_region_held_drew (S:=(fun w'=>w'.cell? ⟨w.heap.size,0,none⟩=some (.int .i64 o.x.id)∧w'.cell? ⟨w.heap.size,1,none⟩=some (.int .i64 o.x.n)∧w'.cell? ⟨w.heap.size,2,none⟩=some (.int .i64 o.x.cut)∧w'.cell? ⟨w.heap.size,3,none⟩=some (.slice o.p0 o.ms.length o.c0)∧w'.cell? ⟨w.heap.size,4,none⟩=some (.slice o.p1 o.x.fd.length o.c1)∧w'.cell? ⟨w.heap.size,5,none⟩=some (.slice o.p2 o.su.length o.c2)∧w'.cell? ⟨w.heap.size,6,none⟩=some (.slice o.p3 o.un.length o.c3)∧w'.cell? ⟨w.heap.size+1,0,none⟩=some (.int .i64 u.x.id)∧w'.cell? ⟨w.heap.size+1,1,none⟩=some (.int .i64 u.x.n)∧w'.cell? ⟨w.heap.size+1,2,none⟩=some (.int .i64 u.x.cut)∧w'.cell? ⟨w.heap.size+1,3,none⟩=some (.slice u.p0 u.ms.length u.c0)∧w'.cell? ⟨w.heap.size+1,4,none⟩=some (.slice u.p1 u.x.fd.length u.c1)∧w'.cell? ⟨w.heap.size+1,5,none⟩=some (.slice u.p2 u.su.length u.c2)∧w'.cell? ⟨w.heap.size+1,6,none⟩=some (.slice u.p3 u.un.length u.c3))) (by kernel_rfl) ?_ (fun hH=>?_)
    ·(try dsimp only)
     exact c14 (X.out.1.next (zc_ _)) (X.out.2.1.next (zc_ _))
    replace O:=hm_ (O.out.next (zc_ _))
    replace X:Hid (Box wr.drew w.heap.size (nL o)∧Box wr.drew (w.heap.size+1) (nL u)∧Below w.heap.size w wr.drew):=⟨X.out.1.next (zc_ _),X.out.2.1.next (zc_ _),X.out.2.2.trans ((zc_ _).mono X.out.2.2.size)⟩
    generalize wr.drew=wd at *
    refine wTk 0 ?_
    refine wTk 1 ?_
    refine wTk 3 ?_
    refine wTk 4 ?_
    refine wRd 2 (fun K hK=>?_)
    go_simp
    go_at_call 73
    refine Calls.mono (CA.out _ k HK.out X.out.2.2) ?_
    rintro e A1 ⟨rfl,hb⟩
    replace X:Hid (Box A1 w.heap.size (nL o)∧Box A1 (w.heap.size+1) (nL u)∧Below w.heap.size w A1):=⟨X.out.1.next hb,X.out.2.1.next hb,X.out.2.2.trans (hb.mono X.out.2.2.size)⟩
    replace O:=hm_ (O.out.next hb)
    (try simp only [])
    refine wHk hK (c14 X.out.1 X.out.2.1) ?_
    clear hK K hH hb
    intro hH
    refine wRd 5 (fun K hK=>?_)
    go_simp
    go_at_call 73
    refine Calls.mono (CB.out _ k HK.out X.out.2.2) ?_
    rintro e A2 ⟨rfl,hb⟩
    replace X:Hid (Box A2 w.heap.size (nL o)∧Box A2 (w.heap.size+1) (nL u)∧Below w.heap.size w A2):=⟨X.out.1.next hb,X.out.2.1.next hb,X.out.2.2.trans (hb.mono X.out.2.2.size)⟩
    replace O:=hm_ (O.out.next hb)
    (try simp only [])
    refine wHk hK (c14 X.out.1 X.out.2.1) ?_
    clear hK K hH hb
    intro hH
    refine wTk 6 ?_
    refine wDn ?_
    clear hH
    go_wp2
    go_roundw
    case rel=>exact ⟨k+1,p,n,c,by omega,by go_num,rfl,by rw [HS.out]; exact HNL.out,by rw [HS.out]; exact O.out,X.out⟩
    case measure=>simp [intOf]; omega
   ·have tq:=q7_ he
    have HS:Hid (dif f g (k+1)=dif f g k++[((k:Nat):Int)]):=uZ_ he
    clear he
    go_wp2_with fail
    refine wp_region_held_drew (S:=(fun w'=>w'.cell? ⟨w.heap.size,0,none⟩=some (.int .i64 o.x.id)∧w'.cell? ⟨w.heap.size,1,none⟩=some (.int .i64 o.x.n)∧w'.cell? ⟨w.heap.size,2,none⟩=some (.int .i64 o.x.cut)∧w'.cell? ⟨w.heap.size,3,none⟩=some (.slice o.p0 o.ms.length o.c0)∧w'.cell? ⟨w.heap.size,4,none⟩=some (.slice o.p1 o.x.fd.length o.c1)∧w'.cell? ⟨w.heap.size,5,none⟩=some (.slice o.p2 o.su.length o.c2)∧w'.cell? ⟨w.heap.size,6,none⟩=some (.slice o.p3 o.un.length o.c3)∧w'.cell? ⟨w.heap.size+1,0,none⟩=some (.int .i64 u.x.id)∧w'.cell? ⟨w.heap.size+1,1,none⟩=some (.int .i64 u.x.n)∧w'.cell? ⟨w.heap.size+1,2,none⟩=some (.int .i64 u.x.cut)∧w'.cell? ⟨w.heap.size+1,3,none⟩=some (.slice u.p0 u.ms.length u.c0)∧w'.cell? ⟨w.heap.size+1,4,none⟩=some (.slice u.p1 u.x.fd.length u.c1)∧w'.cell? ⟨w.heap.size+1,5,none⟩=some (.slice u.p2 u.su.length u.c2)∧w'.cell? ⟨w.heap.size+1,6,none⟩=some (.slice u.p3 u.un.length u.c3))) (by kernel_rfl) ?_ (fun hH=>?_)
    ·(try dsimp only)
     exact c14 (X.out.1.next (zc_ _)) (X.out.2.1.next (zc_ _))
    replace O:=hm_ (O.out.next (zc_ _))
    replace X:Hid (Box wr.drew w.heap.size (nL o)∧Box wr.drew (w.heap.size+1) (nL u)∧Below w.heap.size w wr.drew):=⟨X.out.1.next (zc_ _),X.out.2.1.next (zc_ _),X.out.2.2.trans ((zc_ _).mono X.out.2.2.size)⟩
    generalize wr.drew=wd at *
    refine wTk 0 ?_
    refine wTk 1 ?_
    refine wTk 3 ?_
    refine wTk 4 ?_
    refine wRd 2 (fun K hK=>?_)
    go_simp
    go_at_call 73
    refine Calls.mono (CA.out _ k HK.out X.out.2.2) ?_
    rintro e A1 ⟨rfl,hb⟩
    replace X:Hid (Box A1 w.heap.size (nL o)∧Box A1 (w.heap.size+1) (nL u)∧Below w.heap.size w A1):=⟨X.out.1.next hb,X.out.2.1.next hb,X.out.2.2.trans (hb.mono X.out.2.2.size)⟩
    replace O:=hm_ (O.out.next hb)
    (try simp only [])
    refine wHk hK (c14 X.out.1 X.out.2.1) ?_
    clear hK K hH hb
    intro hH
    refine wRd 5 (fun K hK=>?_)
    go_simp
    go_at_call 73
    refine Calls.mono (CB.out _ k HK.out X.out.2.2) ?_
    rintro e A2 ⟨rfl,hb⟩
    replace X:Hid (Box A2 w.heap.size (nL o)∧Box A2 (w.heap.size+1) (nL u)∧Below w.heap.size w A2):=⟨X.out.1.next hb,X.out.2.1.next hb,X.out.2.2.trans (hb.mono X.out.2.2.size)⟩
    replace O:=hm_ (O.out.next hb)
    (try simp only [])
    refine wHk hK (c14 X.out.1 X.out.2.1) ?_
    clear hK K hH hb
    intro hH
    refine wTk 6 ?_
    refine wDn ?_
    clear hH
    have HL:Hid (w.heap.size+1+1≤A2.heap.size):=X.out.2.1.lt
    go_wp2_with (first | (at_builtin; refine zB_ elI rfl _ _ rfl (.slice p n c) n ((dif f g k).map (Value.int .i64)) (w.heap.size+1+1) (n+1) rfl (O.out.next (zb_ _ _)) (by have:=HL.out; simp; omega) (some ⟨A2.heap.size,0,none⟩) 1 1 [.int .i64 (k:Nat)] rfl rfl (by simp [Value.oneCell']) 0 litG (by omega) rfl ?_) | go_in)
    intro po pc A3 hO hG hS
    replace X:Hid (Box A3 w.heap.size (nL o)∧Box A3 (w.heap.size+1) (nL u)∧Below w.heap.size w A3):=⟨X.out.1.alloc.gro hG (fun e=>by have:=O.out.ge _ e; omega),X.out.2.1.alloc.gro hG (fun e=>by have:=O.out.ge _ e; omega),(X.out.2.2.trans ((zb_ _ _).mono X.out.2.2.size)).trans (hG.below (by have:=X.out.2.2.size; simp; omega) (fun q hq=>by have:=O.out.ge q hq; omega))⟩
    replace O:Hid (OwnG A3 3 1 (.slice po (n+1) pc) (n+1) ((dif f g (k+1)).map (Value.int .i64)) (w.heap.size+1+1)):=by rw [HS.out,List.map_append]; exact hO
    clear hO hG hS
    go_wp2
    go_roundw
    case rel=>exact ⟨k+1,po,n+1,pc,by omega,by go_num,rfl,by rw [HS.out,List.length_append,← HNL.out]; rfl,O.out,X.out⟩
    case measure=>simp [intOf]; omega
  ·have hk':¬ (k:Int) < 4:=by omega
   obtain rfl:k=4:=by omega
   go_wp2
   go_ret2
   exact ⟨p,c,by rw [← HNL.out]; rfl,vM_ O.out HNL.out,X.out.2.2⟩
theorem sr_ (o u:No) (f g:Nat→ByteArray) (w:World)
  (HA:Hid (∀ W,Below w.heap.size w W→Calls Tryz.prog 17 #[nV o] W fun e w'=>e=.returned (.bool true)∧Below W.heap.size W w'))
  (HB:Hid (∀ W,Below w.heap.size w W→Calls Tryz.prog 17 #[nV u] W fun e w'=>e=.returned (.bool true)∧Below W.heap.size W w'))
  (CA:Hid (∀ W,Below w.heap.size w W→Calls Tryz.prog 72 #[nV o] W fun e w'=>e=.returned (.agg #[.string (f 0),.string (f 1),.string (f 2),.string (f 3)])∧Below W.heap.size W w'))
  (CB:Hid (∀ W,Below w.heap.size w W→Calls Tryz.prog 72 #[nV u] W fun e w'=>e=.returned (.agg #[.string (g 0),.string (g 1),.string (g 2),.string (g 3)])∧Below W.heap.size W w')) :
  Calls Tryz.prog 28 #[nV o,nV u] w (uj_ (dif f g 4) w):=by
 (try unfold nV)
 have X:Hid (Box ((w.alloc (.cells (nL o).toArray 29)).alloc (.cells (nL u).toArray 29)) w.heap.size (nL o)∧Box ((w.alloc (.cells (nL o).toArray 29)).alloc (.cells (nL u).toArray 29)) (w.heap.size+1) (nL u)∧Below w.heap.size w ((w.alloc (.cells (nL o).toArray 29)).alloc (.cells (nL u).toArray 29))):=by
  have h1:Box ((w.alloc (.cells (nL o).toArray 29)).alloc (.cells (nL u).toArray 29)) (w.alloc (.cells (nL o).toArray 29)).heap.size (nL u):=zo_
  have e1:(w.alloc (.cells (nL o).toArray 29)).heap.size=w.heap.size+1:=by simp
  rw [e1] at h1
  exact ⟨zo_.alloc,h1,(zb_ _ _).trans ((zb_ _ _).mono (by simp))⟩
 go_enter Tryz.func28,Tryz.ntmps28
 go_upto_region 1 with fail
 generalize ((w.alloc (.cells (nL o).toArray 29)).alloc (.cells (nL u).toArray 29))=W0 at *
 obtain ⟨b0,b1,b2,b3,b4,b5,b6⟩:=X.out.1.c7
 obtain ⟨d0,d1,d2,d3,d4,d5,d6⟩:=X.out.2.1.c7
 go_wp2_with fail
 refine Calls.mono (HA.out _ X.out.2.2) ?_
 rintro e W1 ⟨rfl,hb⟩
 replace X:Hid (Box W1 w.heap.size (nL o)∧Box W1 (w.heap.size+1) (nL u)∧Below w.heap.size w W1):=⟨X.out.1.next hb,X.out.2.1.next hb,X.out.2.2.trans (hb.mono X.out.2.2.size)⟩
 clear hb b0 b1 b2 b3 b4 b5 b6 d0 d1 d2 d3 d4 d5 d6
 obtain ⟨b0,b1,b2,b3,b4,b5,b6⟩:=X.out.1.c7
 obtain ⟨d0,d1,d2,d3,d4,d5,d6⟩:=X.out.2.1.c7
 go_wp2_with fail
 refine Calls.mono (HB.out _ X.out.2.2) ?_
 rintro e W2 ⟨rfl,hb⟩
 replace X:Hid (Box W2 w.heap.size (nL o)∧Box W2 (w.heap.size+1) (nL u)∧Below w.heap.size w W2):=⟨X.out.1.next hb,X.out.2.1.next hb,X.out.2.2.trans (hb.mono X.out.2.2.size)⟩
 clear hb b0 b1 b2 b3 b4 b5 b6 d0 d1 d2 d3 d4 d5 d6 HA HB
 obtain ⟨b0,b1,b2,b3,b4,b5,b6⟩:=X.out.1.c7
 obtain ⟨d0,d1,d2,d3,d4,d5,d6⟩:=X.out.2.1.c7
 go_wp2_with fail
 refine Calls.mono (CB.out _ X.out.2.2) ?_
 rintro e W3 ⟨rfl,hb⟩
 replace X:Hid (Box W3 w.heap.size (nL o)∧Box W3 (w.heap.size+1) (nL u)∧Below w.heap.size w W3):=⟨X.out.1.next hb,X.out.2.1.next hb,X.out.2.2.trans (hb.mono X.out.2.2.size)⟩
 clear hb b0 b1 b2 b3 b4 b5 b6 d0 d1 d2 d3 d4 d5 d6 CB
 go_upto_region 4 with fail
 have Y:Hid ((Box (W3.alloc (.cells #[.string (g 0),.string (g 1),.string (g 2),.string (g 3)] 110)) w.heap.size (nL o)∧Box (W3.alloc (.cells #[.string (g 0),.string (g 1),.string (g 2),.string (g 3)] 110)) (w.heap.size+1) (nL u)∧Below w.heap.size w (W3.alloc (.cells #[.string (g 0),.string (g 1),.string (g 2),.string (g 3)] 110)))∧Box (W3.alloc (.cells #[.string (g 0),.string (g 1),.string (g 2),.string (g 3)] 110)) W3.heap.size [.string (g 0),.string (g 1),.string (g 2),.string (g 3)]∧w.heap.size+1 < W3.heap.size):=⟨⟨X.out.1.alloc,X.out.2.1.alloc,X.out.2.2.trans ((zb_ _ _).mono X.out.2.2.size)⟩,zo_,X.out.2.1.lt⟩
 clear X
 generalize W3.heap.size=g6 at *
 generalize W3.alloc (.cells #[.string (g 0),.string (g 1),.string (g 2),.string (g 3)] 110)=V0 at *
 obtain ⟨b0,b1,b2,b3,b4,b5,b6⟩:=Y.out.1.1.c7
 go_wp2_with fail
 refine Calls.mono (CA.out _ Y.out.1.2.2) ?_
 rintro e V1 ⟨rfl,hb⟩
 have Q:Hid (Box V1 g6 [.string (g 0),.string (g 1),.string (g 2),.string (g 3)]∧Below w.heap.size w V1∧w.heap.size+1 < g6):=⟨Y.out.2.1.next hb,Y.out.1.2.2.trans (hb.mono Y.out.1.2.2.size),Y.out.2.2⟩
 clear hb CA Y b0 b1 b2 b3 b4 b5 b6
 go_wp2
 go_loopw [7,22] (fun s7 s22 wr=>∃ (k:Nat) (p:Option Addr) (n c:Nat),k≤4∧s22=.int .i64 k∧s7=.slice p n c∧n=(dif f g k).length∧OwnG wr 3 1 (.slice p n c) n ((dif f g k).map (Value.int .i64)) (g6+1)∧Box wr g6 [.string (g 0),.string (g 1),.string (g 2),.string (g 3)]∧Below w.heap.size w wr) (fun _ s22 _=>4 - (intOf s22).toNat)
 case atStart=>exact ⟨0,_,_,_,by omega,rfl,rfl,by simp [dif],OwnG.nil _ _ _ _,Q.out.1,Q.out.2.1⟩
 case round=>
  have HG6:Hid (w.heap.size+1 < g6):=Q.out.2.2
  clear Q
  have j0:=nq_ (f 0) (f 1) (f 2) (f 3)
  have j1:=np_ (f 0) (f 1) (f 2) (f 3)
  have j2:=no_ (f 0) (f 1) (f 2) (f 3)
  have j3:=nn_ (f 0) (f 1) (f 2) (f 3)
  obtain ⟨k,p,n,c,hk4,rfl,rfl,hn0,hO,hX,hB⟩:=hrel
  have HNL:=hm_ hn0
  have hn4:n≤4:=by have:=tN_ f g k; omega
  have O:=hm_ hO
  have X:Hid (Box wr g6 [.string (g 0),.string (g 1),.string (g 2),.string (g 3)]∧Below w.heap.size w wr):=⟨hX,hB⟩
  clear hO hX hB hn0
  by_cases hk:k < 4
  ·obtain ⟨y0,y1,y2,y3⟩:=X.out.1.c4
   have HL:Hid (g6+1≤wr.heap.size):=X.out.1.lt
   by_cases he:f k=g k
   ·have tq:=ul_ he
    have HS:Hid (dif f g (k+1)=dif f g k):=sA_ he
    clear he
    rcases (by omega:k=0∨k=1∨k=2∨k=3) with rfl | rfl | rfl | rfl
    ·go_wp2
     go_roundw
     case rel=>exact ⟨0+1,p,n,c,by omega,by go_num,rfl,by rw [HS.out]; exact HNL.out,by rw [HS.out]; exact O.out,X.out.1,X.out.2⟩
     case measure=>simp [intOf]
    ·go_wp2
     go_roundw
     case rel=>exact ⟨1+1,p,n,c,by omega,by go_num,rfl,by rw [HS.out]; exact HNL.out,by rw [HS.out]; exact O.out,X.out.1,X.out.2⟩
     case measure=>simp [intOf]
    ·go_wp2
     go_roundw
     case rel=>exact ⟨2+1,p,n,c,by omega,by go_num,rfl,by rw [HS.out]; exact HNL.out,by rw [HS.out]; exact O.out,X.out.1,X.out.2⟩
     case measure=>simp [intOf]
    ·go_wp2
     go_roundw
     case rel=>exact ⟨3+1,p,n,c,by omega,by go_num,rfl,by rw [HS.out]; exact HNL.out,by rw [HS.out]; exact O.out,X.out.1,X.out.2⟩
     case measure=>simp [intOf]
   ·have tq:=q7_ he
    have HS:Hid (dif f g (k+1)=dif f g k++[((k:Nat):Int)]):=uZ_ he
    clear he
    rcases (by omega:k=0∨k=1∨k=2∨k=3) with rfl | rfl | rfl | rfl
    ·go_wp2_with (first | (at_builtin; refine zB_ elI rfl _ _ rfl (.slice p n c) n ((dif f g 0).map (Value.int .i64)) (g6+1) (n+1) rfl (O.out.next (zb_ _ _)) (by have:=HL.out; simp; omega) (some ⟨wr.heap.size,0,none⟩) 1 1 [.int .i64 0] rfl rfl (by simp [Value.oneCell']) 0 litG (by omega) rfl ?_) | go_in)
     intro po pc A3 hO hG hS
     replace X:Hid (Box A3 g6 [.string (g 0),.string (g 1),.string (g 2),.string (g 3)]∧Below w.heap.size w A3):=⟨X.out.1.alloc.gro hG (fun e=>by have:=O.out.ge _ e; omega),(X.out.2.trans ((zb_ _ _).mono X.out.2.size)).trans (hG.below (by have:=X.out.2.size; simp; omega) (fun q hq=>by have:=O.out.ge q hq; have:=HG6.out; omega))⟩
     replace O:Hid (OwnG A3 3 1 (.slice po (n+1) pc) (n+1) ((dif f g (0+1)).map (Value.int .i64)) (g6+1)):=by rw [HS.out,List.map_append]; exact hO
     clear hO hG hS y0 y1 y2 y3
     go_wp2
     go_roundw
     case rel=>exact ⟨0+1,po,n+1,pc,by omega,by go_num,rfl,by rw [HS.out,List.length_append,← HNL.out]; rfl,O.out,X.out.1,X.out.2⟩
     case measure=>simp [intOf]
    ·go_wp2_with (first | (at_builtin; refine zB_ elI rfl _ _ rfl (.slice p n c) n ((dif f g 1).map (Value.int .i64)) (g6+1) (n+1) rfl (O.out.next (zb_ _ _)) (by have:=HL.out; simp; omega) (some ⟨wr.heap.size,0,none⟩) 1 1 [.int .i64 1] rfl rfl (by simp [Value.oneCell']) 0 litG (by omega) rfl ?_) | go_in)
     intro po pc A3 hO hG hS
     replace X:Hid (Box A3 g6 [.string (g 0),.string (g 1),.string (g 2),.string (g 3)]∧Below w.heap.size w A3):=⟨X.out.1.alloc.gro hG (fun e=>by have:=O.out.ge _ e; omega),(X.out.2.trans ((zb_ _ _).mono X.out.2.size)).trans (hG.below (by have:=X.out.2.size; simp; omega) (fun q hq=>by have:=O.out.ge q hq; have:=HG6.out; omega))⟩
     replace O:Hid (OwnG A3 3 1 (.slice po (n+1) pc) (n+1) ((dif f g (1+1)).map (Value.int .i64)) (g6+1)):=by rw [HS.out,List.map_append]; exact hO
     clear hO hG hS y0 y1 y2 y3
     go_wp2
     go_roundw
     case rel=>exact ⟨1+1,po,n+1,pc,by omega,by go_num,rfl,by rw [HS.out,List.length_append,← HNL.out]; rfl,O.out,X.out.1,X.out.2⟩
     case measure=>simp [intOf]
    ·go_wp2_with (first | (at_builtin; refine zB_ elI rfl _ _ rfl (.slice p n c) n ((dif f g 2).map (Value.int .i64)) (g6+1) (n+1) rfl (O.out.next (zb_ _ _)) (by have:=HL.out; simp; omega) (some ⟨wr.heap.size,0,none⟩) 1 1 [.int .i64 2] rfl rfl (by simp [Value.oneCell']) 0 litG (by omega) rfl ?_) | go_in)
     intro po pc A3 hO hG hS
     replace X:Hid (Box A3 g6 [.string (g 0),.string (g 1),.string (g 2),.string (g 3)]∧Below w.heap.size w A3):=⟨X.out.1.alloc.gro hG (fun e=>by have:=O.out.ge _ e; omega),(X.out.2.trans ((zb_ _ _).mono X.out.2.size)).trans (hG.below (by have:=X.out.2.size; simp; omega) (fun q hq=>by have:=O.out.ge q hq; have:=HG6.out; omega))⟩
     replace O:Hid (OwnG A3 3 1 (.slice po (n+1) pc) (n+1) ((dif f g (2+1)).map (Value.int .i64)) (g6+1)):=by rw [HS.out,List.map_append]; exact hO
     clear hO hG hS y0 y1 y2 y3
     go_wp2
     go_roundw
     case rel=>exact ⟨2+1,po,n+1,pc,by omega,by go_num,rfl,by rw [HS.out,List.length_append,← HNL.out]; rfl,O.out,X.out.1,X.out.2⟩
     case measure=>simp [intOf]
    ·go_wp2_with (first | (at_builtin; refine zB_ elI rfl _ _ rfl (.slice p n c) n ((dif f g 3).map (Value.int .i64)) (g6+1) (n+1) rfl (O.out.next (zb_ _ _)) (by have:=HL.out; simp; omega) (some ⟨wr.heap.size,0,none⟩) 1 1 [.int .i64 3] rfl rfl (by simp [Value.oneCell']) 0 litG (by omega) rfl ?_) | go_in)
     intro po pc A3 hO hG hS
     replace X:Hid (Box A3 g6 [.string (g 0),.string (g 1),.string (g 2),.string (g 3)]∧Below w.heap.size w A3):=⟨X.out.1.alloc.gro hG (fun e=>by have:=O.out.ge _ e; omega),(X.out.2.trans ((zb_ _ _).mono X.out.2.size)).trans (hG.below (by have:=X.out.2.size; simp; omega) (fun q hq=>by have:=O.out.ge q hq; have:=HG6.out; omega))⟩
     replace O:Hid (OwnG A3 3 1 (.slice po (n+1) pc) (n+1) ((dif f g (3+1)).map (Value.int .i64)) (g6+1)):=by rw [HS.out,List.map_append]; exact hO
     clear hO hG hS y0 y1 y2 y3
     go_wp2
     go_roundw
     case rel=>exact ⟨3+1,po,n+1,pc,by omega,by go_num,rfl,by rw [HS.out,List.length_append,← HNL.out]; rfl,O.out,X.out.1,X.out.2⟩
     case measure=>simp [intOf]
  ·obtain rfl:k=4:=by omega
   go_wp2
   go_ret2
   exact ⟨p,c,by rw [← HNL.out]; rfl,vM_ O.out HNL.out,X.out.2⟩
end
section
variable {W W' w:World} {b e g i k lo n q:Nat} {cs:List Cl} {ks:Nat→List ByteArray} {o:No} {s:ByteArray} {u v:Value} {xs:List Value}
def bks (b:Nat) (cs:List Cl):List ByteArray:=(cs.filter (fun c=>decide (bkN c.k=b))).map (fun c=>c.k)
theorem oc_ {c:Cl} (h:bkN c.k=b):bks b (cs++[c])=bks b cs++[c.k]:=by simp [bks,List.filter_append,h]
theorem qT_ {c:Cl} (h:bkN c.k≠b):bks b (cs++[c])=bks b cs:=by simp [bks,List.filter_append,h]
theorem qU_ (b:Nat) (cs:List Cl):(bks b cs).length≤cs.length:=by
 have:=List.length_filter_le (fun c:Cl=>decide (bkN c.k=b)) cs
 simpa [bks] using this
theorem OwnG.setc {size:Nat} (h:OwnG W e size v n xs lo) (hq:q < lo):OwnG (W.setCell ⟨q,i,none⟩ u) e size v n xs lo:=by
 refine ⟨⟨h.own.1,?_⟩,h.ge⟩
 rcases h.own.2 with h' | ⟨g,cap,cur,rfl,hb,hh,r⟩
 ·exact .inl h'
 ·exact .inr ⟨g,cap,cur,rfl,hb,(Below.heap_setCell W ⟨q,i,none⟩ u g (by have:=h.ge g rfl; simp; omega)).trans hh,r⟩
structure KI (W:World) (v:Nat→Value) (ks:Nat→List ByteArray) (lo:Nat):Prop where
 o:∀ n,n < 4→OwnG W 9 1 (v n) (ks n).length (V (ks n)) lo
 ap:∀ m n,m < 4→n < 4→m≠n→∀ k,(v m).ownBlock=some k→(v n).ownBlock≠some k
theorem KI.next {v:Nat→Value} (h:KI W v ks lo) (hb:Below W.heap.size W W'):KI W' v ks lo:=⟨fun n hn=>(h.o n hn).next hb,h.ap⟩
theorem KI.setc {v:Nat→Value} (h:KI W v ks lo) (hq:q < lo):KI (W.setCell ⟨q,i,none⟩ u) v ks lo:=⟨fun n hn=>(h.o n hn).setc hq,h.ap⟩
def upd (v:Nat→Value) (n:Nat) (u:Value):Nat→Value:=fun k=>if n=k then u else v k
theorem rt_ (v:Nat→Value) (n:Nat) (u:Value):upd v n u n=u:=if_pos rfl
theorem vE_ {v:Nat→Value} (h:n≠k):upd v n u k=v k:=if_neg h
theorem KI.step {v:Nat→Value} {ks':Nat→List ByteArray} (h:KI W v ks lo) (hn:n < 4) (hG:Gro W W' (v n) u) (hO:OwnG W' 9 1 u (ks' n).length (V (ks' n)) lo) (ho:∀ k,n≠k→ks' k=ks k):KI W' (upd v n u) ks' lo:=by
 have fr:∀ k,k < 4→n≠k→∀ b,u.ownBlock=some b→(v k).ownBlock≠some b:=fun k hk hne b hb e=>by
  rcases hG.fresh b hb with q | q
  ·exact h.ap n k hn hk hne b q e
  ·have:=((h.o k hk).lt b e).2
   omega
 refine ⟨fun m hm=>?_,fun m k hm hk hne b hb=>?_⟩
 ·by_cases e:n=m
  ·subst e; rw [rt_]; exact hO
  ·rw [vE_ e,ho m e]
   exact (h.o m hm).apart (fun b hb=>h.ap m n hm hn (fun q=>e q.symm) b hb) hG
 ·by_cases e:n=m
  ·subst e
   rw [rt_] at hb
   rw [vE_ hne]
   exact fr k hk hne b hb
  ·rw [vE_ e] at hb
   by_cases e2:n=k
   ·subst e2
    rw [rt_]
    exact fun q=>fr m hm e b q hb
   ·rw [vE_ e2]
    exact h.ap m k hm hk hne b hb
theorem o6_ {v:Nat→Value} (h:Box W g [v 0,v 1,v 2,v 3]) (hn:n < 4):Box (W.setCell ⟨g,n,none⟩ u) g [upd v n u 0,upd v n u 1,upd v n u 2,upd v n u 3]:=by
 have h1:=h.set (i:=n) (u:=u) (by simpa using hn)
 have e:[v 0,v 1,v 2,v 3].set n u=[upd v n u 0,upd v n u 1,upd v n u 2,upd v n u 3]:=by
  rcases (by omega:n=0∨n=1∨n=2∨n=3) with rfl | rfl | rfl | rfl <;> simp [upd]
 rw [e] at h1
 exact h1
theorem tL_ (v:Value) (n n2 lo cap:Nat) (xs:List Value) (kk:ByteArray) (ao:Option Addr) (a b c:Int) (w:World) (h0:OwnG w 9 1 v n xs lo) (hl:lo≤w.heap.size) (hn:n≤1000) :
  Calls Tryz.prog 77 #[v,.agg #[.string kk,.slice ao n2 cap,.int .i64 a,.int .i64 b,.int .i64 c]] w fun e w'=>∃ po pc,e=.returned (.slice po (n+1) pc)∧OwnG w' 9 1 (.slice po (n+1) pc) (n+1) (xs++[.string kk]) lo∧Gro w w' v (.slice po (n+1) pc):=by
 have O:Hid (OwnG (w.alloc (.cells #[.string kk,.slice ao n2 cap,.int .i64 a,.int .i64 b,.int .i64 c] 91)) 9 1 v n xs lo):=h0.next (zb_ _ _)
 have X:Hid (Box (w.alloc (.cells #[.string kk,.slice ao n2 cap,.int .i64 a,.int .i64 b,.int .i64 c] 91)) w.heap.size [.string kk,.slice ao n2 cap,.int .i64 a,.int .i64 b,.int .i64 c]):=zo_
 have G:Hid (Gro w (w.alloc (.cells #[.string kk,.slice ao n2 cap,.int .i64 a,.int .i64 b,.int .i64 c] 91)) v v):=Gro.of_below (zb_ _ _)
 have HL:Hid (lo≤(w.alloc (.cells #[.string kk,.slice ao n2 cap,.int .i64 a,.int .i64 b,.int .i64 c] 91)).heap.size):=by show _≤_; simp; omega
 clear h0 hl
 go_enter Tryz.func77,Tryz.ntmps77
 go_upto_region 1 with fail
 generalize w.alloc (.cells #[.string kk,.slice ao n2 cap,.int .i64 a,.int .i64 b,.int .i64 c] 91)=W0 at *
 obtain ⟨x0,x1,x2,x3,x4⟩:=X.out.c5
 clear x1 x2 x3 x4
 go_wp2_with (first | (at_builtin; refine zB_ elT rfl _ _ rfl v n xs lo (n+1) rfl (O.out.next (zb_ _ _)) (by have:=HL.out; simp; omega) (some ⟨W0.heap.size,0,none⟩) 1 1 [.string kk] rfl rfl (by simp [Value.oneCell']) 0 litG (by omega) rfl ?_) | go_in)
 intro po pc W1 hO hG hS
 have R:Hid (OwnG W1 9 1 (.slice po (n+1) pc) (n+1) (xs++[.string kk]) lo∧Gro w W1 v (.slice po (n+1) pc)):=⟨hO,G.out.trans ((Gro.of_below (zb_ _ _)).trans hG)⟩
 clear hO hG hS
 go_wp2
 go_ret
 exact ⟨po,pc,rfl,R.out.1,R.out.2⟩
def KR (v:Nat→Value) (cs:List Cl) (W:World):Prop:=∀ n,n < 4→∃ p c,v n=.slice p (bks n cs).length c∧GRow 0 W p (V (bks n cs))
theorem Bk4.next {v:Nat→Value} (h:Box W w.heap.size (nL o)∧Box W (w.heap.size+1) [.slice none 0 0,.slice none 0 0,.slice none 0 0,.slice none 0 0]∧Box W (w.heap.size+1+1) [v 0,v 1,v 2,v 3]∧KI W v (fun k=>bks k (o.x.cs.take i)) (w.heap.size+1+1+1)∧Below w.heap.size w W) (hb:Below W.heap.size W W'):Box W' w.heap.size (nL o)∧Box W' (w.heap.size+1) [.slice none 0 0,.slice none 0 0,.slice none 0 0,.slice none 0 0]∧Box W' (w.heap.size+1+1) [v 0,v 1,v 2,v 3]∧KI W' v (fun k=>bks k (o.x.cs.take i)) (w.heap.size+1+1+1)∧Below w.heap.size w W':=⟨h.1.next hb,h.2.1.next hb,h.2.2.1.next hb,h.2.2.2.1.next hb,h.2.2.2.2.trans (hb.mono h.2.2.2.2.size)⟩
def TxtP (ks:List ByteArray) (w:World) (e:Ending) (w':World):Prop:=∃ p c,e=.returned (.tuple #[.slice p ks.length c,.int .i64 0])∧GRow 0 w' p (V ks)∧Below w.heap.size w w'
theorem uh_ (lo:Nat) (o:No) (w:World) (hk:CsK o.x.cs) (h0:NoR lo w o) :
  Calls Tryz.prog 76 #[nV o,.func (.func 77) #[] #[]] w fun e w'=>∃ v:Nat→Value,e=.returned (.agg #[v 0,v 1,v 2,v 3])∧KR v o.x.cs w'∧Below w.heap.size w w':=by
 (try unfold nV)
 have H:Hid (NoR lo w o∧CsK o.x.cs):=⟨h0,hk⟩
 have hml:o.ms.length≤100:=by have:=hk.n; rw [h0.cs] at this; simpa using this
 have X:Hid (Box (((w.alloc (.cells (nL o).toArray 29)).alloc (.cells #[.slice none 0 0,.slice none 0 0,.slice none 0 0,.slice none 0 0] 114)).alloc (.cells #[.slice none 0 0,.slice none 0 0,.slice none 0 0,.slice none 0 0] 114)) w.heap.size (nL o)∧Box (((w.alloc (.cells (nL o).toArray 29)).alloc (.cells #[.slice none 0 0,.slice none 0 0,.slice none 0 0,.slice none 0 0] 114)).alloc (.cells #[.slice none 0 0,.slice none 0 0,.slice none 0 0,.slice none 0 0] 114)) (w.heap.size+1) [.slice none 0 0,.slice none 0 0,.slice none 0 0,.slice none 0 0]∧Box (((w.alloc (.cells (nL o).toArray 29)).alloc (.cells #[.slice none 0 0,.slice none 0 0,.slice none 0 0,.slice none 0 0] 114)).alloc (.cells #[.slice none 0 0,.slice none 0 0,.slice none 0 0,.slice none 0 0] 114)) (w.heap.size+1+1) [(fun _=>Value.slice none 0 0) 0,(fun _=>Value.slice none 0 0) 1,(fun _=>Value.slice none 0 0) 2,(fun _=>Value.slice none 0 0) 3]∧KI (((w.alloc (.cells (nL o).toArray 29)).alloc (.cells #[.slice none 0 0,.slice none 0 0,.slice none 0 0,.slice none 0 0] 114)).alloc (.cells #[.slice none 0 0,.slice none 0 0,.slice none 0 0,.slice none 0 0] 114)) (fun _=>Value.slice none 0 0) (fun k=>bks k (o.x.cs.take 0)) (w.heap.size+1+1+1)∧Below w.heap.size w (((w.alloc (.cells (nL o).toArray 29)).alloc (.cells #[.slice none 0 0,.slice none 0 0,.slice none 0 0,.slice none 0 0] 114)).alloc (.cells #[.slice none 0 0,.slice none 0 0,.slice none 0 0,.slice none 0 0] 114))):=by
  have h1:Box ((w.alloc (.cells (nL o).toArray 29)).alloc (.cells #[.slice none 0 0,.slice none 0 0,.slice none 0 0,.slice none 0 0] 114)) (w.alloc (.cells (nL o).toArray 29)).heap.size [.slice none 0 0,.slice none 0 0,.slice none 0 0,.slice none 0 0]:=zo_
  have h2:Box (((w.alloc (.cells (nL o).toArray 29)).alloc (.cells #[.slice none 0 0,.slice none 0 0,.slice none 0 0,.slice none 0 0] 114)).alloc (.cells #[.slice none 0 0,.slice none 0 0,.slice none 0 0,.slice none 0 0] 114)) ((w.alloc (.cells (nL o).toArray 29)).alloc (.cells #[.slice none 0 0,.slice none 0 0,.slice none 0 0,.slice none 0 0] 114)).heap.size [.slice none 0 0,.slice none 0 0,.slice none 0 0,.slice none 0 0]:=zo_
  have e1:(w.alloc (.cells (nL o).toArray 29)).heap.size=w.heap.size+1:=by simp
  have e2:((w.alloc (.cells (nL o).toArray 29)).alloc (.cells #[.slice none 0 0,.slice none 0 0,.slice none 0 0,.slice none 0 0] 114)).heap.size=w.heap.size+1+1:=by simp
  rw [e1] at h1
  rw [e2] at h2
  exact ⟨zo_.alloc.alloc,h1.alloc,h2,⟨fun n _=>by simpa [bks,V] using OwnG.nil _ 9 1 _,fun _ _ _ _ _ k hk=>absurd hk Gro.none_ne⟩,(zb_ _ _).trans (((zb_ _ _).trans ((zb_ _ _).mono (by simp))).mono (by simp))⟩
 clear h0 hk
 go_enter Tryz.func76,Tryz.ntmps76
 go_upto_region 2 with fail
 generalize (((w.alloc (.cells (nL o).toArray 29)).alloc (.cells #[.slice none 0 0,.slice none 0 0,.slice none 0 0,.slice none 0 0] 114)).alloc (.cells #[.slice none 0 0,.slice none 0 0,.slice none 0 0,.slice none 0 0] 114))=W0 at *
 obtain ⟨b0,b1,b2,b3,b4,b5,b6⟩:=X.out.1.c7
 go_wp2
 go_loopw [12] (fun s12 wr=>∃ (i:Nat) (v:Nat→Value),i≤o.ms.length∧s12=.int .i64 i∧Box wr w.heap.size [.int .i64 o.x.id,.int .i64 o.x.n,.int .i64 o.x.cut,.slice o.p0 o.ms.length o.c0,.slice o.p1 o.x.fd.length o.c1,.slice o.p2 o.su.length o.c2,.slice o.p3 o.un.length o.c3]∧Box wr (w.heap.size+1) [.slice none 0 0,.slice none 0 0,.slice none 0 0,.slice none 0 0]∧Box wr (w.heap.size+1+1) [v 0,v 1,v 2,v 3]∧KI wr v (fun k=>bks k (o.x.cs.take i)) (w.heap.size+1+1+1)∧Below w.heap.size w wr) (fun s12 _=>o.ms.length - (intOf s12).toNat)
 case atStart=>exact ⟨0,fun _=>.slice none 0 0,by omega,rfl,X.out⟩
 case round=>
  clear X b0 b1 b2 b3 b4 b5 b6
  obtain ⟨i,v,hil,rfl,hX⟩:=hrel
  have X:=hm_ hX
  clear hX
  by_cases hkl:i < o.ms.length
  ·have hkl':(i:Int) < (o.ms.length:Int):=by omega
   have kk:(0:Int)≤(i:Int):=by omega
   rcases (H.out.1.r0.next X.out.2.2.2.2).cm with h' | ⟨q,off,hp,_,h2⟩
   ·rw [h'] at hkl; simp at hkl
   obtain ⟨x0,x1,x2,x3,x4⟩:=h2 i hkl
   have HM:Hid (o.ms[i] ∈ o.ms):=List.getElem_mem hkl
   have HT:Hid (o.x.cs.take (i+1)=o.x.cs.take i++[o.ms[i].c]):=ue_ H.out.1 hkl
   have HC:Hid (OkP o.ms[i].c.l o.ms[i].c.a o.ms[i].c.b o.ms[i].c.c∧keyP o.ms[i].c.k):=H.out.2.ok _ (by rw [H.out.1.cs]; exact List.mem_map_of_mem HM.out)
   generalize hC:o.ms[i].c=C at *
   generalize o.ms[i].p=mp at *
   generalize o.ms[i].q=mq at *
   have hks:C.k.size < 1099511627776:=by have:=HC.out.2.2.1; omega
   have CB:Hid (∀ W,Calls Tryz.prog 79 #[.string C.k] W fun e w'=>e=.returned (.int .i64 ((bkN C.k:Nat):Int))∧Below W.heap.size W w'):=fun W=>yX_ C.k W hks
   have hn4:bkN C.k < 4:=qV_ _
   have HTB:Hid (bks (bkN C.k) (o.x.cs.take (i+1))=bks (bkN C.k) (o.x.cs.take i)++[C.k]∧∀ k,bkN C.k≠k→bks k (o.x.cs.take (i+1))=bks k (o.x.cs.take i)):=⟨by rw [HT.out]; exact oc_ rfl,fun k hk=>by rw [HT.out]; exact qT_ hk⟩
   have HLE:Hid ((bks (bkN C.k) (o.x.cs.take i)).length≤1000):=by show _≤_; have h1:=qU_ (bkN C.k) (o.x.cs.take i); have h3:(o.x.cs.take i).length≤100:=(H.out.2.take i).n; omega
   generalize hnn:bkN C.k=n at *
   have n0:(0:Int)≤(n:Int):=by omega
   have n4:(n:Int) < 4:=by omega
   have HP:=hm_ hp
   rw [hp]
   clear h2 HM HT HC hks hC hnn hp
   go_upto_region 5 with fail
   refine zQ_ (fun W=>(Box W w.heap.size (nL o)∧Box W (w.heap.size+1) [.slice none 0 0,.slice none 0 0,.slice none 0 0,.slice none 0 0]∧Box W (w.heap.size+1+1) [v 0,v 1,v 2,v 3]∧KI W v (fun k=>bks k (o.x.cs.take i)) (w.heap.size+1+1+1)∧Below w.heap.size w W)∧Box W wr.heap.size [.string C.k,.slice mp C.l.length mq,.int .i64 C.a,.int .i64 C.b,.int .i64 C.c]∧(∀ k,(v n).ownBlock=some k→k < wr.heap.size)∧(w.heap.size+1+1+1)≤wr.heap.size) ⟨Bk4.next X.out (zb_ _ _),zo_,fun k hk=>((X.out.2.2.2.1.o n hn4).lt k hk).2,X.out.2.2.1.lt⟩ (fun W0 hI=>?_)
   replace X:=hm_ hI.1
   have X7:=hm_ hI.2.1
   have H7:=hm_ hI.2.2
   clear hI x0 x1 x2 x3 x4
   generalize wr.heap.size=g7 at *
   obtain ⟨y0,y1,y2,y3,y4⟩:=X7.out.c5
   go_wp2_with fail
   refine Calls.mono (CB.out _) ?_
   rintro e W1 ⟨rfl,hb⟩
   replace X:Hid (Box W1 w.heap.size (nL o)∧Box W1 (w.heap.size+1) [.slice none 0 0,.slice none 0 0,.slice none 0 0,.slice none 0 0]∧Box W1 (w.heap.size+1+1) [v 0,v 1,v 2,v 3]∧KI W1 v (fun k=>bks k (o.x.cs.take i)) (w.heap.size+1+1+1)∧Below w.heap.size w W1):=Bk4.next X.out hb
   replace X7:=hm_ (X7.out.next hb)
   clear hb y0 y1 y2 y3 y4 CB
   go_upto_region 6 with fail
   refine wp_region_held_drew (S:=(fun w'=>w'.cell? ⟨g7,0,none⟩=some (.string C.k)∧w'.cell? ⟨g7,1,none⟩=some (.slice mp C.l.length mq)∧w'.cell? ⟨g7,2,none⟩=some (.int .i64 C.a)∧w'.cell? ⟨g7,3,none⟩=some (.int .i64 C.b)∧w'.cell? ⟨g7,4,none⟩=some (.int .i64 C.c))) (by kernel_rfl) ?_ (fun hH=>?_)
   ·(try dsimp only)
    exact (X7.out.next (zc_ _)).c5
   refine wTk 0 ?_
   refine wTk 1 ?_
   refine wTk 2 ?_
   refine wTk 3 ?_
   refine wTk 5 ?_
   replace X:Hid (Box W1.drew w.heap.size (nL o)∧Box W1.drew (w.heap.size+1) [.slice none 0 0,.slice none 0 0,.slice none 0 0,.slice none 0 0]∧Box W1.drew (w.heap.size+1+1) [v 0,v 1,v 2,v 3]∧KI W1.drew v (fun k=>bks k (o.x.cs.take i)) (w.heap.size+1+1+1)∧Below w.heap.size w W1.drew):=Bk4.next X.out (zc_ _)
   replace X7:=hm_ (X7.out.next (zc_ _))
   generalize W1.drew=wd at *
   have y:wd.cell? ⟨w.heap.size+1+1,n,none⟩=some (v n):=by
    have:=(X.out.2.2.1.is n (by simpa using hn4)).1
    rcases (by omega:n=0∨n=1∨n=2∨n=3) with rfl | rfl | rfl | rfl <;> exact this
   obtain ⟨vp,vc,hv,_,_⟩:=(X.out.2.2.2.1.o n hn4).grow
   have HV:=hm_ hv
   rw [hv] at y
   clear hv
   refine wRd 4 (fun K hK=>?_)
   go_simp
   (try simp only [])
   refine wHk hK (hH) ?_
   clear hK K hH y
   intro hH
   refine wRd 6 (fun K hK=>?_)
   go_simp
   go_at_call 77
   have CG:=tL_ (v n) (bks n (o.x.cs.take i)).length C.l.length (w.heap.size+1+1+1) mq (V (bks n (o.x.cs.take i))) C.k mp C.a C.b C.c wd (X.out.2.2.2.1.o n hn4) X.out.2.2.1.lt HLE.out
   rw [HV.out] at CG
   refine Calls.mono CG ?_
   clear CG
   rintro e W2 ⟨po,pc,rfl,hO,hG⟩
   rw [← HV.out] at hG
   have hne:∀ k,(v n).ownBlock=some k→(w.heap.size+1+1+1)≤k:=fun k hk=>(X.out.2.2.2.1.o n hn4).ge k hk
   have YB:Hid (Box W2 w.heap.size (nL o)∧Box W2 (w.heap.size+1) [.slice none 0 0,.slice none 0 0,.slice none 0 0,.slice none 0 0]∧Box W2 (w.heap.size+1+1) [v 0,v 1,v 2,v 3]∧KI W2 (upd v n (.slice po ((bks n (o.x.cs.take i)).length+1) pc)) (fun k=>bks k (o.x.cs.take (i+1))) (w.heap.size+1+1+1)∧Below w.heap.size w W2):=⟨X.out.1.gro hG (fun e=>by have:=hne _ e; omega),X.out.2.1.gro hG (fun e=>by have:=hne _ e; omega),X.out.2.2.1.gro hG (fun e=>by have:=hne _ e; omega),X.out.2.2.2.1.step hn4 hG (by rw [HTB.out.1,List.length_append]; simpa [V] using hO) HTB.out.2,X.out.2.2.2.2.trans (hG.below X.out.2.2.2.2.size (fun k hk=>by have:=hne k hk; omega))⟩
   replace X7:Hid (Box W2 g7 [.string C.k,.slice mp C.l.length mq,.int .i64 C.a,.int .i64 C.b,.int .i64 C.c]):=X7.out.gro hG (fun e=>by have:=H7.out.1 _ e; omega)
   (try simp only [])
   refine wHk hK (X7.out.c5) ?_
   clear hK K hH hO hG hne HV X
   intro hH
   refine wTk 7 ?_
   obtain ⟨zz,y⟩:∃ zz,W2.cell? ⟨w.heap.size+1+1,n,none⟩=some zz:=⟨_,(YB.out.2.2.1.is n (by simpa using hn4)).1⟩
   have yf:W2.frozen? ⟨w.heap.size+1+1,n,none⟩=false:=(YB.out.2.2.1.is n (by simpa using hn4)).2
   have XS:Hid (Box (W2.setCell ⟨w.heap.size+1+1,n,none⟩ (.slice po ((bks n (o.x.cs.take i)).length+1) pc)) w.heap.size (nL o)∧Box (W2.setCell ⟨w.heap.size+1+1,n,none⟩ (.slice po ((bks n (o.x.cs.take i)).length+1) pc)) (w.heap.size+1) [.slice none 0 0,.slice none 0 0,.slice none 0 0,.slice none 0 0]∧Box (W2.setCell ⟨w.heap.size+1+1,n,none⟩ (.slice po ((bks n (o.x.cs.take i)).length+1) pc)) (w.heap.size+1+1) [(upd v n (.slice po ((bks n (o.x.cs.take i)).length+1) pc)) 0,(upd v n (.slice po ((bks n (o.x.cs.take i)).length+1) pc)) 1,(upd v n (.slice po ((bks n (o.x.cs.take i)).length+1) pc)) 2,(upd v n (.slice po ((bks n (o.x.cs.take i)).length+1) pc)) 3]∧KI (W2.setCell ⟨w.heap.size+1+1,n,none⟩ (.slice po ((bks n (o.x.cs.take i)).length+1) pc)) (upd v n (.slice po ((bks n (o.x.cs.take i)).length+1) pc)) (fun k=>bks k (o.x.cs.take (i+1))) (w.heap.size+1+1+1)∧Below w.heap.size w (W2.setCell ⟨w.heap.size+1+1,n,none⟩ (.slice po ((bks n (o.x.cs.take i)).length+1) pc))):=⟨YB.out.1.oth (by omega),YB.out.2.1.oth (by omega),o6_ YB.out.2.2.1 hn4,YB.out.2.2.2.1.setc (by omega),YB.out.2.2.2.2.setCell (by show _≤_; dsimp only; omega) _⟩
   have X9:Hid (Box (W2.setCell ⟨w.heap.size+1+1,n,none⟩ (.slice po ((bks n (o.x.cs.take i)).length+1) pc)) g7 [.string C.k,.slice mp C.l.length mq,.int .i64 C.a,.int .i64 C.b,.int .i64 C.c]):=X7.out.oth (by have:=H7.out.2; omega)
   refine wRd 8 (fun K hK=>?_)
   go_simp
   (try simp only [])
   refine wHk hK (X9.out.c5) ?_
   clear hK K hH y yf YB X7
   intro hH
   refine wDn ?_
   clear hH
   go_wp2
   go_roundw
   case rel=>exact ⟨i+1,_,by omega,by go_num,by rw [← HP.out]; exact XS.out⟩
   case measure=>simp [intOf]; omega
  ·have hkl':¬ (i:Int) < (o.ms.length:Int):=by omega
   have e:o.x.cs.take i=o.x.cs:=by rw [List.take_of_length_le]; rw [H.out.1.cs]; simp; omega
   rw [e] at X
   have hv:∀ n,n < 4→∃ p c,v n=.slice p (bks n o.x.cs).length c∧GRow 0 wr p (V (bks n o.x.cs)):=fun n hn=>by
    obtain ⟨p,c,h1,_,h3⟩:=(X.out.2.2.2.1.o n hn).grow
    exact ⟨p,c,h1,h3.weak (Nat.zero_le _)⟩
   have HV:Hid (∀ n,n < 4→∃ p c,v n=.slice p (bks n o.x.cs).length c∧GRow (w.heap.size+1+1+1) wr p (V (bks n o.x.cs))):=fun n hn=>by
    obtain ⟨p,c,h1,_,h3⟩:=(X.out.2.2.2.1.o n hn).grow
    exact ⟨p,c,h1,h3⟩
   obtain ⟨y0,y1,y2,y3⟩:=X.out.2.2.1.c4
   obtain ⟨z0,z1,z2,z3⟩:=X.out.2.1.c4
   obtain ⟨f0,f1,f2,f3⟩:=X.out.2.1.f4
   clear e hv
   obtain ⟨q0,c0,e0,_⟩:=HV.out 0 (by decide)
   obtain ⟨q1,c1,e1,_⟩:=HV.out 1 (by decide)
   obtain ⟨q2,c2,e2,_⟩:=HV.out 2 (by decide)
   obtain ⟨q3,c3,e3,_⟩:=HV.out 3 (by decide)
   rw [e0] at y0
   rw [e1] at y1
   rw [e2] at y2
   rw [e3] at y3
   have E:Hid (v 0=.slice q0 (bks 0 o.x.cs).length c0∧v 1=.slice q1 (bks 1 o.x.cs).length c1∧v 2=.slice q2 (bks 2 o.x.cs).length c2∧v 3=.slice q3 (bks 3 o.x.cs).length c3):=⟨e0,e1,e2,e3⟩
   clear e0 e1 e2 e3
   go_wp2
   refine bodyPost_ret (v:=.agg #[.slice q0 (bks 0 o.x.cs).length c0,.slice q1 (bks 1 o.x.cs).length c1,.slice q2 (bks 2 o.x.cs).length c2,.slice q3 (bks 3 o.x.cs).length c3]) (by simp [results,Tryz.results76,go_sem, *]) rfl ?_
   refine ⟨v,by rw [E.out.1,E.out.2.1,E.out.2.2.1,E.out.2.2.2],fun n hn=>?_,?_⟩
   ·obtain ⟨p,c,h1,h3⟩:=HV.out n hn
    exact ⟨p,c,h1,((((h3.keep (zh_ (by omega))).keep (zh_ (by omega))).keep (zh_ (by omega))).keep (zh_ (by omega))).weak (Nat.zero_le _)⟩
   ·exact (((X.out.2.2.2.2.setCell (by simp) _).setCell (by simp) _).setCell (by simp) _).setCell (by simp) _
theorem rf_ (lo:Nat) (o:No) (b:Nat) (w:World) (hb4:b < 4) (hk:CsK o.x.cs) (h0:NoR lo w o)
  (HN:Hid (∀ W,Below w.heap.size w W→Calls Tryz.prog 17 #[nV o] W fun e w'=>e=.returned (.bool true)∧Below W.heap.size W w')) :
  Calls Tryz.prog 32 #[nV o,.int .i64 (b:Nat)] w (TxtP (bks b o.x.cs) w):=by
 (try unfold nV)
 have CB:Hid (∀ W,Below w.heap.size w W→Calls Tryz.prog 76 #[nV o,.func (.func 77) #[] #[]] W fun e w'=>∃ v:Nat→Value,e=.returned (.agg #[v 0,v 1,v 2,v 3])∧KR v o.x.cs w'∧Below W.heap.size W w'):=fun W hW=>uh_ lo o W hk (h0.next hW)
 have X:Hid (Box (w.alloc (.cells (nL o).toArray 29)) w.heap.size (nL o)∧Below w.heap.size w (w.alloc (.cells (nL o).toArray 29))):=⟨zo_,zb_ _ _⟩
 have n0:¬ (b:Int) < 0:=by omega
 have n4:¬ (4:Int)≤(b:Int):=by omega
 have n5:(b:Int) < 4:=by omega
 have n6:(0:Int)≤(b:Int):=by omega
 have HB4:Hid (b < 4):=hb4
 clear hk h0
 go_enter Tryz.func32,Tryz.ntmps32
 go_upto_region 1 with fail
 generalize (w.alloc (.cells (nL o).toArray 29))=W0 at *
 obtain ⟨b0,b1,b2,b3,b4,b5,b6⟩:=X.out.1.c7
 go_wp2_with fail
 refine Calls.mono (HN.out _ X.out.2) ?_
 rintro e W1 ⟨rfl,hb⟩
 replace X:Hid (Box W1 w.heap.size (nL o)∧Below w.heap.size w W1):=⟨X.out.1.next hb,X.out.2.trans (hb.mono X.out.2.size)⟩
 clear hb HN b0 b1 b2 b3 b4 b5 b6
 obtain ⟨b0,b1,b2,b3,b4,b5,b6⟩:=X.out.1.c7
 go_wp2_with fail
 refine Calls.mono (CB.out _ X.out.2) ?_
 rintro e W2 ⟨v,rfl,hv,hb⟩
 replace X:Hid (Box W2 w.heap.size (nL o)∧Below w.heap.size w W2):=⟨X.out.1.next hb,X.out.2.trans (hb.mono X.out.2.size)⟩
 have HV:=hm_ hv
 clear hb hv CB b0 b1 b2 b3 b4 b5 b6
 obtain ⟨p0,c0,e0,_⟩:=HV.out 0 (by decide)
 obtain ⟨p1,c1,e1,_⟩:=HV.out 1 (by decide)
 obtain ⟨p2,c2,e2,_⟩:=HV.out 2 (by decide)
 obtain ⟨p3,c3,e3,_⟩:=HV.out 3 (by decide)
 rw [e0,e1,e2,e3]
 obtain ⟨p,c,eb,hg⟩:=HV.out b HB4.out
 have Y:Hid (Box (W2.alloc (.cells #[.slice p0 (bks 0 o.x.cs).length c0,.slice p1 (bks 1 o.x.cs).length c1,.slice p2 (bks 2 o.x.cs).length c2,.slice p3 (bks 3 o.x.cs).length c3] 114)) W2.heap.size [.slice p0 (bks 0 o.x.cs).length c0,.slice p1 (bks 1 o.x.cs).length c1,.slice p2 (bks 2 o.x.cs).length c2,.slice p3 (bks 3 o.x.cs).length c3]∧Below w.heap.size w (W2.alloc (.cells #[.slice p0 (bks 0 o.x.cs).length c0,.slice p1 (bks 1 o.x.cs).length c1,.slice p2 (bks 2 o.x.cs).length c2,.slice p3 (bks 3 o.x.cs).length c3] 114))∧GRow 0 (W2.alloc (.cells #[.slice p0 (bks 0 o.x.cs).length c0,.slice p1 (bks 1 o.x.cs).length c1,.slice p2 (bks 2 o.x.cs).length c2,.slice p3 (bks 3 o.x.cs).length c3] 114)) p (V (bks b o.x.cs))):=⟨zo_,X.out.2.trans ((zb_ _ _).mono X.out.2.size),hg.next (zb_ _ _)⟩
 have y:(W2.alloc (.cells #[.slice p0 (bks 0 o.x.cs).length c0,.slice p1 (bks 1 o.x.cs).length c1,.slice p2 (bks 2 o.x.cs).length c2,.slice p3 (bks 3 o.x.cs).length c3] 114)).cell? ⟨W2.heap.size,b,none⟩=some (.slice p (bks b o.x.cs).length c):=by
  have h:=(Y.out.1.is b (by simpa using HB4.out)).1
  rw [h,← eb]
  rcases (by omega:b=0∨b=1∨b=2∨b=3) with rfl | rfl | rfl | rfl
  ·rw [e0]; rfl
  ·rw [e1]; rfl
  ·rw [e2]; rfl
  ·rw [e3]; rfl
 clear hg eb e0 e1 e2 e3 HV X
 go_upto_region 6 with fail
 generalize W2.heap.size=g6 at *
 generalize W2.alloc (.cells #[.slice p0 (bks 0 o.x.cs).length c0,.slice p1 (bks 1 o.x.cs).length c1,.slice p2 (bks 2 o.x.cs).length c2,.slice p3 (bks 3 o.x.cs).length c3] 114)=W3 at *
 go_wp2
 go_ret2
 exact ⟨p,c,rfl,Y.out.2.2,Y.out.2.1⟩
theorem re_ (lo:Nat) (o:No) (w:World) (hk:CsK o.x.cs) (h0:NoR lo w o)
  (HN:Hid (∀ W,Below w.heap.size w W→Calls Tryz.prog 17 #[nV o] W fun e w'=>e=.returned (.bool true)∧Below W.heap.size W w')) :
  Calls Tryz.prog 14 #[nV o] w (TxtP (o.x.cs.map (fun c=>c.k)) w):=by
 (try unfold nV)
 have H:Hid (NoR lo w o):=h0
 have hml:o.ms.length≤100:=by have:=hk.n; rw [h0.cs] at this; simpa using this
 have HLC:Hid (o.x.cs.length=o.ms.length):=by show _=_; rw [h0.cs]; simp
 have X:Hid (Box (w.alloc (.cells (nL o).toArray 29)) w.heap.size (nL o)∧Below w.heap.size w (w.alloc (.cells (nL o).toArray 29))):=⟨zo_,zb_ _ _⟩
 clear hk h0
 go_enter Tryz.func14,Tryz.ntmps14
 go_upto_region 1 with fail
 generalize (w.alloc (.cells (nL o).toArray 29))=W0 at *
 obtain ⟨b0,b1,b2,b3,b4,b5,b6⟩:=X.out.1.c7
 go_wp2_with fail
 refine Calls.mono (HN.out _ X.out.2) ?_
 rintro e W1 ⟨rfl,hb⟩
 replace X:Hid (Box W1 w.heap.size (nL o)∧Below w.heap.size w W1):=⟨X.out.1.next hb,X.out.2.trans (hb.mono X.out.2.size)⟩
 clear hb HN b0 b1 b2 b3 b4 b5 b6
 obtain ⟨b0,b1,b2,b3,b4,b5,b6⟩:=X.out.1.c7
 go_wp2
 go_loopw [4,13] (fun s4 s13 wr=>∃ (i:Nat) (p:Option Addr) (c:Nat),i≤o.ms.length∧s13=.int .i64 i∧s4=.slice p i c∧OwnG wr 9 1 (.slice p i c) i (V ((o.x.cs.take i).map (fun c=>c.k))) (w.heap.size+1)∧Box wr w.heap.size [.int .i64 o.x.id,.int .i64 o.x.n,.int .i64 o.x.cut,.slice o.p0 o.ms.length o.c0,.slice o.p1 o.x.fd.length o.c1,.slice o.p2 o.su.length o.c2,.slice o.p3 o.un.length o.c3]∧Below w.heap.size w wr) (fun _ s13 _=>o.ms.length - (intOf s13).toNat)
 case atStart=>exact ⟨0,_,_,by omega,rfl,rfl,by simpa [V] using OwnG.nil _ 9 1 _,X.out⟩
 case round=>
  clear X b0 b1 b2 b3 b4 b5 b6
  obtain ⟨i,p,c,hil,rfl,rfl,hO,hX⟩:=hrel
  have X:=hm_ hX
  have O:=hm_ hO
  clear hX hO
  by_cases hkl:i < o.ms.length
  ·have hkl':(i:Int) < (o.ms.length:Int):=by omega
   have kk:(0:Int)≤(i:Int):=by omega
   rcases (H.out.r0.next X.out.2).cm with h' | ⟨q,off,hp,_,h2⟩
   ·rw [h'] at hkl; simp at hkl
   obtain ⟨x0,x1,x2,x3,x4⟩:=h2 i hkl
   have HT:Hid (o.x.cs.take (i+1)=o.x.cs.take i++[o.ms[i].c]):=ue_ H.out hkl
   generalize hC:o.ms[i].c=C at *
   generalize o.ms[i].p=mp at *
   generalize o.ms[i].q=mq at *
   have HP:=hm_ hp
   rw [hp]
   clear h2 hC hp
   go_upto_region 7 with fail
   have Y:Hid (Box (wr.alloc (.cells #[.string C.k,.slice mp C.l.length mq,.int .i64 C.a,.int .i64 C.b,.int .i64 C.c] 91)) wr.heap.size [.string C.k,.slice mp C.l.length mq,.int .i64 C.a,.int .i64 C.b,.int .i64 C.c]):=zo_
   replace X:Hid (Box (wr.alloc (.cells #[.string C.k,.slice mp C.l.length mq,.int .i64 C.a,.int .i64 C.b,.int .i64 C.c] 91)) w.heap.size (nL o)∧Below w.heap.size w (wr.alloc (.cells #[.string C.k,.slice mp C.l.length mq,.int .i64 C.a,.int .i64 C.b,.int .i64 C.c] 91))):=⟨X.out.1.alloc,X.out.2.trans ((zb_ _ _).mono X.out.2.size)⟩
   replace O:Hid (OwnG (wr.alloc (.cells #[.string C.k,.slice mp C.l.length mq,.int .i64 C.a,.int .i64 C.b,.int .i64 C.c] 91)) 9 1 (.slice p i c) i (V ((o.x.cs.take i).map (fun c=>c.k))) (w.heap.size+1)):=O.out.next (zb_ _ _)
   generalize wr.heap.size=g7 at *
   generalize wr.alloc (.cells #[.string C.k,.slice mp C.l.length mq,.int .i64 C.a,.int .i64 C.b,.int .i64 C.c] 91)=W2 at *
   clear x0 x1 x2 x3 x4
   obtain ⟨y0,y1,y2,y3,y4⟩:=Y.out.c5
   have HL:Hid (w.heap.size+1≤W2.heap.size):=X.out.1.lt
   clear y1 y2 y3 y4
   go_wp2_with (first | (at_builtin; refine zB_ elT rfl _ _ rfl (.slice p i c) i (V ((o.x.cs.take i).map (fun c=>c.k))) (w.heap.size+1) (i+1) rfl (O.out.next (zb_ _ _)) (by have:=HL.out; simp; omega) (some ⟨W2.heap.size,0,none⟩) 1 1 [.string C.k] rfl rfl (by simp [Value.oneCell']) 0 litG (by omega) rfl ?_) | go_in)
   intro po pc W3 hO hG hS
   replace X:Hid (Box W3 w.heap.size (nL o)∧Below w.heap.size w W3):=⟨X.out.1.alloc.gro hG (fun e=>by have:=O.out.ge _ e; omega),(X.out.2.trans ((zb_ _ _).mono X.out.2.size)).trans (hG.below (by have:=X.out.2.size; simp; omega) (fun q hq=>by have:=O.out.ge q hq; omega))⟩
   replace O:Hid (OwnG W3 9 1 (.slice po (i+1) pc) (i+1) (V ((o.x.cs.take (i+1)).map (fun c=>c.k))) (w.heap.size+1)):=by show OwnG _ _ _ _ _ _ _; rw [HT.out]; simpa [V] using hO
   clear hO hG hS y0 Y HL
   go_wp2
   go_roundw
   case rel=>exact ⟨i+1,po,pc,by omega,by go_num,rfl,O.out,by rw [← HP.out]; exact X.out⟩
   case measure=>simp [intOf]; omega
  ·have hkl':¬ (i:Int) < (o.ms.length:Int):=by omega
   have e:o.x.cs.take i=o.x.cs:=by rw [List.take_of_length_le]; have:=HLC.out; omega
   have HI:Hid (i=(o.x.cs.map (fun c=>c.k)).length):=by show _=_; have:=HLC.out; simp; omega
   rw [e] at O
   clear e
   go_wp2
   go_ret2
   obtain ⟨p2,c2,h1,_,h3⟩:=O.out.grow
   cases h1
   exact ⟨p,c,by rw [← HI.out]; rfl,h3.weak (Nat.zero_le _),X.out.2⟩
theorem kf_ok (h:keyP s):KfI s true=0:=by unfold KfI; rw [if_neg (by have:=h.2.1; omega)]; rfl
theorem uT_ (s:ByteArray) (w:World) (h:keyP s) :
  Calls Tryz.prog 33 #[.string s] w fun e w'=>e=.returned (.tuple #[.int .i64 ((bkN s:Nat):Int),.int .i64 0])∧Below w.heap.size w w':=by
 have hs:s.size < 1099511627776:=by have:=h.2.1; omega
 have CF:Hid (∀ W,Calls Tryz.prog 78 #[.string s] W fun e w'=>e=.returned (.int .i64 0)∧Below W.heap.size W w'):=fun W=>by
  have q:=v5_ s true ⟨fun _=>h,fun _=>rfl⟩ W hs
  rw [kf_ok h] at q
  exact q
 have CB:Hid (∀ W,Calls Tryz.prog 79 #[.string s] W fun e w'=>e=.returned (.int .i64 ((bkN s:Nat):Int))∧Below W.heap.size W w'):=fun W=>yX_ s W hs
 clear h hs
 go_enter Tryz.func33,Tryz.ntmps33
 go_wp2_with fail
 refine Calls.mono (CF.out _) ?_
 rintro e W1 ⟨rfl,hb⟩
 have HB:=hm_ hb
 clear hb
 go_wp2_with fail
 refine Calls.mono (CB.out _) ?_
 rintro e W2 ⟨rfl,hb⟩
 go_wp2
 go_ret2
 exact ⟨rfl,HB.out.trans (hb.mono HB.out.size)⟩
end
end Go.Proofs.YtiokjphefpicbaaGreatDoor
