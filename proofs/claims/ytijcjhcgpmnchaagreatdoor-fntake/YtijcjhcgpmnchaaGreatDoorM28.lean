/- Nodes, part 28 of the law FnTake. -/
import Derived.Test.YtijcjhcgpmnchaaGreatDoorM27
import Derived.Deep.CutRange
namespace Go.Proofs.YtijcjhcgpmnchaaGreatDoor
open Go.RowKit
set_option maxRecDepth 100000
set_option maxHeartbeats 16000000
set_option linter.unusedSimpArgs false
set_option linter.unusedVariables false
section
variable {W W' w:World} {g i:Nat} {o:No} {t:TypeId} {u u0 u1 u2 u3 v0 v1 v2:Value} {xs:List Value}
theorem yD_ {p n:Int} {k:ByteArray}:GRow 0 (W.alloc (.cells #[.int .i64 p,.int .i64 n,.string k] t)) (some ⟨W.heap.size,0,none⟩) (zl_ [⟨p,n,k⟩]):=.inr ⟨W.heap.size,0,rfl,Nat.zero_le _,fun j hj=>by
 have hj':j=0∨j=1∨j=2:=by simp [zl_] at hj; omega
 rcases hj' with rfl | rfl | rfl <;> first | (simp [zl_]; done) | (simp [zl_]; go_simp)⟩
theorem Box.c3 (h:Box W g [v0,v1,v2]):W.cell? ⟨g,0,none⟩=some v0∧W.cell? ⟨g,1,none⟩=some v1∧W.cell? ⟨g,2,none⟩=some v2:=⟨(h.is 0 (by simp)).1,(h.is 1 (by simp)).1,(h.is 2 (by simp)).1⟩
theorem Box.f3 (h:Box W g [v0,v1,v2]):W.frozen? ⟨g,0,none⟩=false∧W.frozen? ⟨g,1,none⟩=false∧W.frozen? ⟨g,2,none⟩=false:=⟨(h.is 0 (by simp)).2,(h.is 1 (by simp)).2,(h.is 2 (by simp)).2⟩
theorem Box.s3 (h:Box W g [v0,v1,v2]):Box (((W.setCell ⟨g,0,none⟩ u0).setCell ⟨g,1,none⟩ u1).setCell ⟨g,2,none⟩ u2) g [u0,u1,u2]:=by
 have:=(((h.set (i:=0) (u:=u0) (by simp)).set (i:=1) (u:=u1) (by simp)).set (i:=2) (u:=u2) (by simp))
 simpa using this
structure PB (w W:World) (xs:List Value) (id n:Int):Prop where
 x:Box W w.heap.size xs
 r:Box W (w.heap.size+1+1) nZ
 q:Box W (w.heap.size+1+1+1) [.int .i64 0,.int .i64 0]
 d:Box W (w.heap.size+1+1+1+1) [.int .i64 id,.int .i64 (n+1)]
 b:Below w.heap.size w W
theorem PB.next {id n:Int} (h:PB w W xs id n) (hb:Below W.heap.size W W'):PB w W' xs id n:=⟨h.x.next hb,h.r.next hb,h.q.next hb,h.d.next hb,h.b.trans (hb.mono h.b.size)⟩
theorem PB.far {id n:Int} (h:PB w W xs id n) (hg:w.heap.size+1+1+1+1 < g):PB w (W.setCell ⟨g,i,none⟩ u) xs id n:=⟨h.x.oth (by omega),h.r.oth (by omega),h.q.oth (by omega),h.d.oth (by omega),zt_ h.b (by omega)⟩
theorem PB.far4 {id n:Int} (h:PB w W xs id n) (hg:w.heap.size+1+1+1+1 < g):PB w ((((W.setCell ⟨g,0,none⟩ u0).setCell ⟨g,1,none⟩ u1).setCell ⟨g,2,none⟩ u2).setCell ⟨g,3,none⟩ u3) xs id n:=(((h.far hg).far hg).far hg).far hg
theorem PB.at {id n:Int} (h:PB w W xs id n) (hi:i < xs.length):PB w (W.setCell ⟨w.heap.size,i,none⟩ u) (xs.set i u) id n:=⟨h.x.set hi,h.r.oth (by omega),h.q.oth (by omega),h.d.oth (by omega),zt_ h.b (by omega)⟩
theorem w2_ {X Y Z:Int} (h:PB w W (nL o) o.x.id o.x.n) (hc:Box W (w.heap.size+1) [.int .i64 X,.int .i64 Y,.int .i64 Z]):W.cell? ⟨w.heap.size,0,none⟩=some (.int .i64 o.x.id)∧W.cell? ⟨w.heap.size,1,none⟩=some (.int .i64 o.x.n)∧W.cell? ⟨w.heap.size,2,none⟩=some (.int .i64 o.x.cut)∧W.cell? ⟨w.heap.size,3,none⟩=some (.slice o.p0 o.ms.length o.c0)∧W.cell? ⟨w.heap.size,4,none⟩=some (.slice o.p1 o.x.fd.length o.c1)∧W.cell? ⟨w.heap.size,5,none⟩=some (.slice o.p2 o.su.length o.c2)∧W.cell? ⟨w.heap.size,6,none⟩=some (.slice o.p3 o.un.length o.c3)∧W.cell? ⟨w.heap.size+1,0,none⟩=some (.int .i64 X)∧W.cell? ⟨w.heap.size+1,1,none⟩=some (.int .i64 Y)∧W.cell? ⟨w.heap.size+1,2,none⟩=some (.int .i64 Z)∧W.cell? ⟨w.heap.size+1+1+1+1,0,none⟩=some (.int .i64 o.x.id)∧W.cell? ⟨w.heap.size+1+1+1+1,1,none⟩=some (.int .i64 (o.x.n+1)):=by
 obtain ⟨b0,b1,b2,b3,b4,b5,b6⟩:=h.x.c7;obtain ⟨c0,c1,c2⟩:=hc.c3;obtain ⟨d0,d1⟩:=h.d.c2;exact ⟨b0,b1,b2,b3,b4,b5,b6,c0,c1,c2,d0,d1⟩
theorem nc_ (a b c p n P Q R:Int) (h:p=0∨p=1∨p=2) (hn:comp a b c p < n) (hP:P=if p=0 then n else a) (hQ:Q=if p=1 then n else b) (hR:R=if p=2 then n else c) (w:World) :
  Calls Tryz.prog 150 #[.agg #[.int .i64 a,.int .i64 b,.int .i64 c],.agg #[.int .i64 p,.int .i64 n]] w fun e w'=>e=.returned (.agg #[.int .i64 P,.int .i64 Q,.int .i64 R])∧Below w.heap.size w w':=by
 subst hP hQ hR;rcases h with rfl | rfl | rfl
 ·simpa using rm_ a b c n w (by simpa [comp] using hn)
 ·simpa using rl_ a b c n w (by simpa [comp] using hn)
 ·simpa using rk_ a b c n w (by simpa [comp] using hn)
def wrC (x:Nd) (h:Cl) (X Y Z v:Int) (d:Bool):Cl:=⟨h.k,pt ⟨x.id,x.n+1,v,d⟩ (fil X Y Z h.l),if x.id=0 then x.n+1 else max h.a X,if x.id=1 then x.n+1 else max h.b Y,if x.id=2 then x.n+1 else max h.c Z⟩
def PtP (lo:Nat) (w:World) (o:No) (C:Cl) (e:Ending) (w':World):Prop:=
 ∃ u:No,e=.returned (.tuple #[nV u,.agg #[.int .i64 o.x.id,.int .i64 (o.x.n+1)],.int .i64 0])∧NoR lo w' u∧u.x=nxt o.x (true,C)∧u.su=o.su∧u.un=o.un++[zq_ (recT true C)]∧(∀ b,b < w.heap.size->NoX o b->NoX u b)∧Below w.heap.size w w'
theorem pt_ (lo:Nat) (o:No) (k:ByteArray) (X Y Z v:Int) (d:Bool) (w:World) (hlo:lo<=w.heap.size) (hm:o.ms.length < 100) (hs:o.su.length+o.un.length < 300) (hf:o.x.fd.length<=100000) (hid:o.x.id=0∨o.x.id=1∨o.x.id=2) (hn:0<=o.x.n∧o.x.n < 9999) (hH:OkP (atC k o.x.cs).l (atC k o.x.cs).a (atC k o.x.cs).b (atC k o.x.cs).c) (hHX:comp (max (atC k o.x.cs).a X) (max (atC k o.x.cs).b Y) (max (atC k o.x.cs).c Z) o.x.id < o.x.n+1) (hX:comp X Y Z o.x.id < o.x.n+1) (hC0:OkP (wrC o.x (atC k o.x.cs) X Y Z v d).l (wrC o.x (atC k o.x.cs) X Y Z v d).a (wrC o.x (atC k o.x.cs) X Y Z v d).b (wrC o.x (atC k o.x.cs) X Y Z v d).c) (hk:k.size<=6) (h0:NoR lo w o) :
  Calls Tryz.prog 49 #[nV o,.string k,.agg #[.int .i64 X,.int .i64 Y,.int .i64 Z],.int .i64 v,.bool d] w fun e w'=>PtP lo w o (wrC o.x (atC k o.x.cs) X Y Z v d) e w':=by
 (try unfold nV);have h:Hid (NoR lo w o):=h0;have HLO:=hm_ hlo;obtain ⟨H,hH0⟩:∃ H:Cl,H=atC k o.x.cs:=⟨_,rfl⟩;have HHK:Hid (H.k=k):=by show _=_; rw [hH0]; exact q1_ _ _
 have CO:Hid (∀ W,NoR lo W o->Calls Tryz.prog 102 #[nV o,.string k] W fun e w'=>∃ p q,e=.returned (.agg #[.slice p H.l.length q,.int .i64 H.a,.int .i64 H.b,.int .i64 H.c])∧GRow lo w' p (flat H.l)∧Below W.heap.size W w'):=fun W hW=>by
  rw [hH0];refine (xR_ lo o k W (by omega) hW).mono ?_;rintro e w' ⟨p,q,h1,h2,_,h4⟩;exact ⟨p,q,h1,h2,h4⟩
 rw [<- hH0] at hH hHX hC0 ⊢;clear hH0 h0 hlo;obtain ⟨C,hC1⟩:∃ C:Cl,C=wrC o.x H X Y Z v d:=⟨_,rfl⟩
 have CW:Hid (∀ W p q,zk_ W p H.l->Calls Tryz.prog 101 #[.agg #[.slice p H.l.length q,.int .i64 H.a,.int .i64 H.b,.int .i64 H.c],.agg #[.int .i64 X,.int .i64 Y,.int .i64 Z],.agg #[.int .i64 o.x.id,.int .i64 (o.x.n+1),.int .i64 v,.bool d]] W fun e w'=>∃ v,e=.returned (.agg #[v,.int .i64 C.a,.int .i64 C.b,.int .i64 C.c])∧Gro W w' (.slice none 0 0) v∧w'.ownsRow 0 89 4 v C.l.length (flat C.l)):=fun W p q hr=>by
  rw [hC1];exact u5_ q p H.l H.a H.b H.c X Y Z _ _ _ ⟨o.x.id,o.x.n+1,v,d⟩ W (by have:=hH.1; omega) (wg_ hH) hr (fun W=>nc_ _ _ _ _ _ _ _ _ hid hHX rfl rfl rfl W)
 have HK:Hid (C.k=k):=by show _=_; rw [hC1]; exact HHK.out
 rw [<- hC1] at hC0 ⊢;have HC:=hm_ hC0;clear hC1 hC0 hH hHX
 have CH:Hid (∀ W,Calls Tryz.prog 100 #[.agg #[.int .i64 X,.int .i64 Y,.int .i64 Z],.agg #[.int .i64 o.x.id,.int .i64 (o.x.n+1)]] W fun e w'=>e=.returned (.bool false)∧Below W.heap.size W w'):=fun W=>by
  refine (yk_ X Y Z o.x.id (o.x.n+1) W (by omega) (by omega)).mono ?_;rintro e w' ⟨rfl,hb⟩;exact ⟨by rw [decide_eq_false (by omega)],hb⟩
 have q1:IntKind.i64.wrap (o.x.n+1)=o.x.n+1:=by rw [IntKind.wrap_i64]; omega
 have q2:¬ (o.x.n=9999):=by omega
 have B1:Hid (Below w.heap.size w (((((w.alloc (.cells (nL o).toArray 29)).alloc (.cells #[.int .i64 X,.int .i64 Y,.int .i64 Z] 35)).alloc (.cells nZ.toArray 29)).alloc (.cells #[.int .i64 0,.int .i64 0] 41)).alloc (.cells #[.int .i64 o.x.id,.int .i64 (o.x.n+1)] 41))):=((((zb_ _ _).trans ((zb_ _ _).mono (by simp))).trans ((zb_ _ _).mono (by first | (simp; done) | (simp; omega)))).trans ((zb_ _ _).mono (by first | (simp; done) | (simp; omega)))).trans ((zb_ _ _).mono (by first | (simp; done) | (simp; omega)));have PBA:Hid (PB w (((((w.alloc (.cells (nL o).toArray 29)).alloc (.cells #[.int .i64 X,.int .i64 Y,.int .i64 Z] 35)).alloc (.cells nZ.toArray 29)).alloc (.cells #[.int .i64 0,.int .i64 0] 41)).alloc (.cells #[.int .i64 o.x.id,.int .i64 (o.x.n+1)] 41)) (nL o) o.x.id o.x.n):=⟨zn_.alloc.alloc.alloc.alloc,by have:=((zn_ (W:=(w.alloc (.cells (nL o).toArray 29)).alloc (.cells #[.int .i64 X,.int .i64 Y,.int .i64 Z] 35)) (t:=29) (vs:=nZ)).alloc (ob:=.cells #[.int .i64 0,.int .i64 0] 41)).alloc (ob:=.cells #[.int .i64 o.x.id,.int .i64 (o.x.n+1)] 41); simpa using this,by have:=(zn_ (W:=((w.alloc (.cells (nL o).toArray 29)).alloc (.cells #[.int .i64 X,.int .i64 Y,.int .i64 Z] 35)).alloc (.cells nZ.toArray 29)) (t:=41) (vs:=[.int .i64 0,.int .i64 0])).alloc (ob:=.cells #[.int .i64 o.x.id,.int .i64 (o.x.n+1)] 41); simpa using this,by have:=zn_ (W:=((((w.alloc (.cells (nL o).toArray 29)).alloc (.cells #[.int .i64 X,.int .i64 Y,.int .i64 Z] 35)).alloc (.cells nZ.toArray 29)).alloc (.cells #[.int .i64 0,.int .i64 0] 41))) (t:=41) (vs:=[.int .i64 o.x.id,.int .i64 (o.x.n+1)]); simpa using this,B1.out⟩
 have CXA:Hid (Box (((((w.alloc (.cells (nL o).toArray 29)).alloc (.cells #[.int .i64 X,.int .i64 Y,.int .i64 Z] 35)).alloc (.cells nZ.toArray 29)).alloc (.cells #[.int .i64 0,.int .i64 0] 41)).alloc (.cells #[.int .i64 o.x.id,.int .i64 (o.x.n+1)] 41)) (w.heap.size+1) [.int .i64 X,.int .i64 Y,.int .i64 Z]):=by
  have:=(((zn_ (W:=w.alloc (.cells (nL o).toArray 29)) (t:=35) (vs:=[.int .i64 X,.int .i64 Y,.int .i64 Z])).alloc (ob:=.cells nZ.toArray 29)).alloc (ob:=.cells #[.int .i64 0,.int .i64 0] 41)).alloc (ob:=.cells #[.int .i64 o.x.id,.int .i64 (o.x.n+1)] 41)
  show Box _ _ _
  simpa using this
 go_enter Tryz.func49,Tryz.ntmps49;go_upto_region 4 with fail;generalize (((((w.alloc (.cells (nL o).toArray 29)).alloc (.cells #[.int .i64 X,.int .i64 Y,.int .i64 Z] 35)).alloc (.cells nZ.toArray 29)).alloc (.cells #[.int .i64 0,.int .i64 0] 41)).alloc (.cells #[.int .i64 o.x.id,.int .i64 (o.x.n+1)] 41))=W1a at *;obtain ⟨b0,b1,b2,b3,b4,b5,b6⟩:=PBA.out.x.c7;obtain ⟨c0,c1,c2⟩:=CXA.out.c3;obtain ⟨d0,d1⟩:=PBA.out.d.c2;go_upto_region 6 with (first | (go_at_call 100; refine (CH.out _).mono ?_; rintro e W1 ⟨rfl,hb1⟩));have PB1:Hid _:=PBA.out.next hb1;have CX1:Hid _:=CXA.out.next hb1;clear PBA CXA B1 CH b0 b1 b2 b3 b4 b5 b6 c0 c1 c2 d0 d1 hb1 q2
 go_cut [14] from 32 to 40 (fun s14 wc=>∃ (g14:Nat) (vo:Option Addr) (vc:Nat),s14=.pointer (some ⟨g14,0,none⟩)∧PB w wc [.int .i64 o.x.id,.int .i64 o.x.n,.int .i64 o.x.cut,.slice o.p0 o.ms.length o.c0,.slice o.p1 o.x.fd.length o.c1,.slice o.p2 o.su.length o.c2,.slice o.p3 o.un.length o.c3] o.x.id o.x.n∧Box wc g14 [.slice vo C.l.length vc,.int .i64 C.a,.int .i64 C.b,.int .i64 C.c]∧(GRow (w.heap.size+5) wc vo (flat C.l)∧C.l.length<=vc)∧w.heap.size+1+1+1+1 < g14)
 case first=>
  refine wp_region_held_drew (S:=(fun w'=>w'.cell? ⟨w.heap.size,0,none⟩=some (.int .i64 o.x.id)∧w'.cell? ⟨w.heap.size,1,none⟩=some (.int .i64 o.x.n)∧w'.cell? ⟨w.heap.size,2,none⟩=some (.int .i64 o.x.cut)∧w'.cell? ⟨w.heap.size,3,none⟩=some (.slice o.p0 o.ms.length o.c0)∧w'.cell? ⟨w.heap.size,4,none⟩=some (.slice o.p1 o.x.fd.length o.c1)∧w'.cell? ⟨w.heap.size,5,none⟩=some (.slice o.p2 o.su.length o.c2)∧w'.cell? ⟨w.heap.size,6,none⟩=some (.slice o.p3 o.un.length o.c3)∧w'.cell? ⟨w.heap.size+1,0,none⟩=some (.int .i64 X)∧w'.cell? ⟨w.heap.size+1,1,none⟩=some (.int .i64 Y)∧w'.cell? ⟨w.heap.size+1,2,none⟩=some (.int .i64 Z)∧w'.cell? ⟨w.heap.size+1+1+1+1,0,none⟩=some (.int .i64 o.x.id)∧w'.cell? ⟨w.heap.size+1+1+1+1,1,none⟩=some (.int .i64 (o.x.n+1)))) (by kernel_rfl) ?_ (fun hH=>?_)
  ·(try dsimp only);exact w2_ (PB1.out.next (zd_ _)) (CX1.out.next (zd_ _))
  have BW:Hid (Below W1.heap.size W1 W1.drew):=zd_ _;refine wTk 0 ?_;refine wTk 1 ?_;refine wTk 3 ?_;refine wTk 4 ?_;refine wTk 5 ?_;refine wTk 6 ?_;refine wTk 7 ?_;generalize W1.drew=wd at *;refine wpAnyH_ready (rs:=[2,9]) (by kernel_rfl) (by simp) ?_;refine .cons rfl (fun K hK=>?_) (.cons rfl (fun K hK=>?_) .nil)
  ·refine wLy ?_;go_simp;go_at_call 102;refine (CO.out _ (h.out.next (PB1.out.next BW.out).b)).mono ?_;rintro e x0 ⟨p1,q1,rfl,hg1,hb1⟩;(try simp only []);replace BW:=ze_ BW hb1;have HG1:Hid (GRow lo _ p1 (flat H.l)):=hg1;clear hg1 hb1;refine wHk hK (w2_ (PB1.out.next BW.out) (CX1.out.next BW.out)) ?_;clear hK K hH;intro hH;refine wpAnyH_ready (rs:=[8,9]) (by kernel_rfl) (by simp) ?_;refine .cons rfl (fun K hK=>?_) (.cons rfl (fun K hK=>?_) .nil)
   focus
    refine wLy ?_;go_simp;go_at_call 101;refine (CW.out _ _ _ HG1.out.sib).mono ?_;rintro e x1 ⟨v2,rfl,hG2,hO2⟩;obtain ⟨vo,vc,rfl⟩:=y0_ hO2;have hb2:=hG2.below (Nat.le_refl _) (fun k hk=>absurd hk Gro.none_ne);obtain ⟨pj,cj,ej,hcj,hgj⟩:=yi_ hO2 (fun k hk=>by rcases hG2.fresh k hk with e | e; exact absurd e Gro.none_ne; exact e);cases ej;have HGJ:Hid (GRow W1.heap.size _ vo (flat C.l)∧C.l.length<=vc):=⟨hgj.weak BW.out.size,hcj⟩;(try simp only []);replace BW:=ze_ BW hb2;clear hG2 hO2 hb2 hgj hcj;refine wHk hK (w2_ (PB1.out.next BW.out) (CX1.out.next BW.out)) ?_;clear hK K hH;intro hH;refine wRd 9 (fun K hK=>?_);go_simp;(try simp only []);have B9:Hid (Box (x1.alloc (.cells #[.slice none 0 0,.int .i64 0,.int .i64 0,.int .i64 0] 37)) x1.heap.size [.slice none 0 0,.int .i64 0,.int .i64 0,.int .i64 0]):=zn_;have hge:Hid (W1.heap.size<=x1.heap.size):=BW.out.size;have NE9:Hid (∀ x,vo=some x->flat C.l≠[]->x.block≠x1.heap.size):=oP_ HGJ.out.1;replace BW:=ze_ BW (zb_ x1 (.cells #[.slice none 0 0,.int .i64 0,.int .i64 0,.int .i64 0] 37));replace HGJ:Hid (GRow W1.heap.size _ vo (flat C.l)∧C.l.length<=vc):=And.intro (HGJ.out.1.next (zb_ _ (.cells #[.slice none 0 0,.int .i64 0,.int .i64 0,.int .i64 0] 37))) HGJ.out.2;refine wHk hK (w2_ (PB1.out.next BW.out) (CX1.out.next BW.out)) ?_;clear hK K hH;intro hH;generalize x1.alloc (.cells #[.slice none 0 0,.int .i64 0,.int .i64 0,.int .i64 0] 37)=x2 at *;generalize x1.heap.size=g14 at *
   rotate_left
   focus
    refine wLy ?_;go_simp;(try simp only []);have B9:Hid (Box (x0.alloc (.cells #[.slice none 0 0,.int .i64 0,.int .i64 0,.int .i64 0] 37)) x0.heap.size [.slice none 0 0,.int .i64 0,.int .i64 0,.int .i64 0]):=zn_;have hge:Hid (W1.heap.size<=x0.heap.size):=BW.out.size;replace BW:=ze_ BW (zb_ x0 (.cells #[.slice none 0 0,.int .i64 0,.int .i64 0,.int .i64 0] 37));replace HG1:Hid (GRow lo _ p1 (flat H.l)):=HG1.out.next (zb_ _ (.cells #[.slice none 0 0,.int .i64 0,.int .i64 0,.int .i64 0] 37));refine wHk hK (w2_ (PB1.out.next BW.out) (CX1.out.next BW.out)) ?_;clear hK K hH;intro hH;generalize x0.alloc (.cells #[.slice none 0 0,.int .i64 0,.int .i64 0,.int .i64 0] 37)=x1 at *;generalize x0.heap.size=g14 at *;refine wRd 8 (fun K hK=>?_);go_simp;go_at_call 101;refine (CW.out _ _ _ HG1.out.sib).mono ?_;rintro e x2 ⟨v2,rfl,hG2,hO2⟩;obtain ⟨vo,vc,rfl⟩:=y0_ hO2;have hb2:=hG2.below (Nat.le_refl _) (fun k hk=>absurd hk Gro.none_ne);obtain ⟨pj,cj,ej,hcj,hgj⟩:=yi_ hO2 (fun k hk=>by rcases hG2.fresh k hk with e | e; exact absurd e Gro.none_ne; exact e);cases ej;have HGJ:Hid (GRow W1.heap.size _ vo (flat C.l)∧C.l.length<=vc):=⟨hgj.weak BW.out.size,hcj⟩;(try simp only []);have NE9:Hid (∀ x,vo=some x->flat C.l≠[]->x.block≠g14):=yO_ hgj B9.out.lt;replace B9:Hid _:=B9.out.next hb2;replace BW:=ze_ BW hb2;clear hG2 hO2 hb2 hgj hcj;refine wHk hK (w2_ (PB1.out.next BW.out) (CX1.out.next BW.out)) ?_;clear hK K hH;intro hH
   rotate_left
   all_goals
    obtain ⟨y0,y1,y2,y3⟩:=B9.out.c4;obtain ⟨f0,f1,f2,f3⟩:=B9.out.f4;have hg5:w.heap.size+1+1+1+1 < g14:=Nat.lt_of_lt_of_le PB1.out.d.lt hge.out;have BX9:Hid (Box ((((x2.setCell ⟨g14,0,none⟩ (.slice vo C.l.length vc)).setCell ⟨g14,1,none⟩ (.int .i64 C.a)).setCell ⟨g14,2,none⟩ (.int .i64 C.b)).setCell ⟨g14,3,none⟩ (.int .i64 C.c)) g14 [.slice vo C.l.length vc,.int .i64 C.a,.int .i64 C.b,.int .i64 C.c]):=B9.out.s4;have PB9:Hid (PB w ((((x2.setCell ⟨g14,0,none⟩ (.slice vo C.l.length vc)).setCell ⟨g14,1,none⟩ (.int .i64 C.a)).setCell ⟨g14,2,none⟩ (.int .i64 C.b)).setCell ⟨g14,3,none⟩ (.int .i64 C.c)) (nL o) o.x.id o.x.n):=(PB1.out.next BW.out).far4 hg5;have CX9:Hid (Box ((((x2.setCell ⟨g14,0,none⟩ (.slice vo C.l.length vc)).setCell ⟨g14,1,none⟩ (.int .i64 C.a)).setCell ⟨g14,2,none⟩ (.int .i64 C.b)).setCell ⟨g14,3,none⟩ (.int .i64 C.c)) (w.heap.size+1) [.int .i64 X,.int .i64 Y,.int .i64 Z]):=(CX1.out.next BW.out).o4 (by omega);have HJ9:Hid (GRow (w.heap.size+5) ((((x2.setCell ⟨g14,0,none⟩ (.slice vo C.l.length vc)).setCell ⟨g14,1,none⟩ (.int .i64 C.a)).setCell ⟨g14,2,none⟩ (.int .i64 C.b)).setCell ⟨g14,3,none⟩ (.int .i64 C.c)) vo (flat C.l)∧C.l.length<=vc):=⟨((((HGJ.out.1.oth NE9.out).oth NE9.out).oth NE9.out).oth NE9.out).weak (by have:=PB1.out.d.lt; omega),HGJ.out.2⟩;refine wRd 10 (fun K hK=>?_);go_simp;(try simp only []);refine wHk hK (w2_ PB9.out CX9.out) ?_;clear hK K hH;intro hH;refine wDn ?_;clear hH y0 y1 y2 y3 f0 f1 f2 f3;go_wp2_with fail;go_meet
    case rel=>exact ⟨g14,vo,vc,rfl,PB9.out,BX9.out,HJ9.out,hg5⟩
  ·refine wLy ?_;go_simp;(try simp only []);have B9:Hid (Box (wd.alloc (.cells #[.slice none 0 0,.int .i64 0,.int .i64 0,.int .i64 0] 37)) wd.heap.size [.slice none 0 0,.int .i64 0,.int .i64 0,.int .i64 0]):=zn_;have hge:Hid (W1.heap.size<=wd.heap.size):=BW.out.size;replace BW:=ze_ BW (zb_ wd (.cells #[.slice none 0 0,.int .i64 0,.int .i64 0,.int .i64 0] 37));refine wHk hK (w2_ (PB1.out.next BW.out) (CX1.out.next BW.out)) ?_;clear hK K hH;intro hH;generalize wd.alloc (.cells #[.slice none 0 0,.int .i64 0,.int .i64 0,.int .i64 0] 37)=x0 at *;generalize wd.heap.size=g14 at *;refine wRd 2 (fun K hK=>?_);go_simp;go_at_call 102;refine (CO.out _ (h.out.next (PB1.out.next BW.out).b)).mono ?_;rintro e x1 ⟨p1,q1,rfl,hg1,hb1⟩;(try simp only []);replace BW:=ze_ BW hb1;replace B9:Hid _:=B9.out.next hb1;have HG1:Hid (GRow lo _ p1 (flat H.l)):=hg1;clear hg1 hb1;refine wHk hK (w2_ (PB1.out.next BW.out) (CX1.out.next BW.out)) ?_;clear hK K hH;intro hH;refine wRd 8 (fun K hK=>?_);go_simp;go_at_call 101;refine (CW.out _ _ _ HG1.out.sib).mono ?_;rintro e x2 ⟨v2,rfl,hG2,hO2⟩;obtain ⟨vo,vc,rfl⟩:=y0_ hO2;have hb2:=hG2.below (Nat.le_refl _) (fun k hk=>absurd hk Gro.none_ne);obtain ⟨pj,cj,ej,hcj,hgj⟩:=yi_ hO2 (fun k hk=>by rcases hG2.fresh k hk with e | e; exact absurd e Gro.none_ne; exact e);cases ej;have HGJ:Hid (GRow W1.heap.size _ vo (flat C.l)∧C.l.length<=vc):=⟨hgj.weak BW.out.size,hcj⟩;(try simp only []);have NE9:Hid (∀ x,vo=some x->flat C.l≠[]->x.block≠g14):=yO_ hgj B9.out.lt;replace B9:Hid _:=B9.out.next hb2;replace BW:=ze_ BW hb2;clear hG2 hO2 hb2 hgj hcj;refine wHk hK (w2_ (PB1.out.next BW.out) (CX1.out.next BW.out)) ?_;clear hK K hH;intro hH;obtain ⟨y0,y1,y2,y3⟩:=B9.out.c4;obtain ⟨f0,f1,f2,f3⟩:=B9.out.f4;have hg5:w.heap.size+1+1+1+1 < g14:=Nat.lt_of_lt_of_le PB1.out.d.lt hge.out;have BX9:Hid (Box ((((x2.setCell ⟨g14,0,none⟩ (.slice vo C.l.length vc)).setCell ⟨g14,1,none⟩ (.int .i64 C.a)).setCell ⟨g14,2,none⟩ (.int .i64 C.b)).setCell ⟨g14,3,none⟩ (.int .i64 C.c)) g14 [.slice vo C.l.length vc,.int .i64 C.a,.int .i64 C.b,.int .i64 C.c]):=B9.out.s4;have PB9:Hid (PB w ((((x2.setCell ⟨g14,0,none⟩ (.slice vo C.l.length vc)).setCell ⟨g14,1,none⟩ (.int .i64 C.a)).setCell ⟨g14,2,none⟩ (.int .i64 C.b)).setCell ⟨g14,3,none⟩ (.int .i64 C.c)) (nL o) o.x.id o.x.n):=(PB1.out.next BW.out).far4 hg5;have CX9:Hid (Box ((((x2.setCell ⟨g14,0,none⟩ (.slice vo C.l.length vc)).setCell ⟨g14,1,none⟩ (.int .i64 C.a)).setCell ⟨g14,2,none⟩ (.int .i64 C.b)).setCell ⟨g14,3,none⟩ (.int .i64 C.c)) (w.heap.size+1) [.int .i64 X,.int .i64 Y,.int .i64 Z]):=(CX1.out.next BW.out).o4 (by omega);have HJ9:Hid (GRow (w.heap.size+5) ((((x2.setCell ⟨g14,0,none⟩ (.slice vo C.l.length vc)).setCell ⟨g14,1,none⟩ (.int .i64 C.a)).setCell ⟨g14,2,none⟩ (.int .i64 C.b)).setCell ⟨g14,3,none⟩ (.int .i64 C.c)) vo (flat C.l)∧C.l.length<=vc):=⟨((((HGJ.out.1.oth NE9.out).oth NE9.out).oth NE9.out).oth NE9.out).weak (by have:=PB1.out.d.lt; omega),HGJ.out.2⟩;refine wRd 10 (fun K hK=>?_);go_simp;(try simp only []);refine wHk hK (w2_ PB9.out CX9.out) ?_;clear hK K hH;intro hH;refine wDn ?_;clear hH y0 y1 y2 y3 f0 f1 f2 f3;go_wp2_with fail;go_meet
   case rel=>exact ⟨g14,vo,vc,rfl,PB9.out,BX9.out,HJ9.out,hg5⟩
 case rest=>
  obtain ⟨g14,vo,vc,rfl,hP2,hB2,hJ2,hg2⟩:=hcut;have PB2:Hid _:=hP2;have BX2:Hid _:=hB2;have HJ2:Hid _:=hJ2;clear hP2 hB2 hJ2 PB1 CX1 CO CW;obtain ⟨b0,b1,b2,b3,b4,b5,b6⟩:=PB2.out.x.c7;obtain ⟨z0,z1,z2,z3⟩:=BX2.out.c4;have CR:Hid (Calls Tryz.prog 103 #[nV o,.string k,.agg #[.slice vo C.l.length vc,.int .i64 C.a,.int .i64 C.b,.int .i64 C.c]] wc _):=uS_ lo o k C vo vc wc hs hm HC.out.1 (h.out.next PB2.out.b);go_upto_region 10 with (first | (go_at_call 103; refine CR.out.mono ?_; rintro e w3 ⟨rfl,hb3⟩));have PB3:Hid _:=PB2.out.next hb3;have BX3:Hid _:=BX2.out.next hb3;have HJ3:Hid (GRow (w.heap.size+5) w3 vo (flat C.l)∧C.l.length<=vc):=⟨HJ2.out.1.next hb3,HJ2.out.2⟩;clear PB2 BX2 HJ2 CR hb3 b0 b1 b2 b3 b4 b5 b6 z0 z1 z2 z3;obtain ⟨b0,b1,b2,b3,b4,b5,b6⟩:=PB3.out.x.c7;obtain ⟨z0,z1,z2,z3⟩:=BX3.out.c4
  have CT:Hid (Calls Tryz.prog 104 #[nV o,.string k,.agg #[.slice vo C.l.length vc,.int .i64 C.a,.int .i64 C.b,.int .i64 C.c]] w3 fun e w'=>SetP lo w3 o C vo vc e w'):=by
   have:=wL_ lo o C vo vc w3 (Nat.le_trans HLO.out PB3.out.b.size) (by omega) (h.out.next PB3.out.b) (HJ3.out.1.weak (by have:=HLO.out; omega)) HJ3.out.2
   rw [HK.out] at this;exact this
  go_upto_region 11 with (first | (go_at_call 104; refine CT.out.mono ?_; rintro e w4 ⟨p',c',rfl,hN4,hg4,hc4,hb4⟩; obtain ⟨t0,t1,t2,t3,t4,t5,t6⟩:=(PB3.out.x.next hb4).c7; obtain ⟨s0,s1,s2,s3,s4,s5,s6⟩:=(PB3.out.x.next hb4).f7));refine zH_ (fun W=>PB w W [.int .i64 o.x.id,.int .i64 o.x.n,.int .i64 o.x.cut,.slice p' (setM ⟨C,vo,vc⟩ o.ms).length c',.slice o.p1 o.x.fd.length o.c1,.slice o.p2 o.su.length o.c2,.slice o.p3 o.un.length o.c3] o.x.id o.x.n∧Box W g14 [.slice vo C.l.length vc,.int .i64 C.a,.int .i64 C.b,.int .i64 C.c]∧GRow (w.heap.size+5) W vo (flat C.l)∧GRow (w.heap.size+5) W p' (zp_ (setM ⟨C,vo,vc⟩ o.ms))) ?_ (fun W4 hI=>?_)
  ·refine ⟨⟨(PB3.out.x.next hb4).s7,(PB3.out.r.next hb4).o7 (by omega),(PB3.out.q.next hb4).o7 (by omega),(PB3.out.d.next hb4).o7 (by omega),?_⟩,(BX3.out.next hb4).o7 (by omega),?_,?_⟩
   ·repeat (refine zt_ ?_ (by omega))
    exact (PB3.out.next hb4).b
   ·repeat (refine GRow.keep ?_ (zc_ (by omega)))
    exact HJ3.out.1.next hb4
   ·repeat (refine GRow.keep ?_ (zc_ (by omega)))
    exact hg4.weak (by have:=PB3.out.d.lt; omega)
  have X4:Hid _:=hI;have HC5:=hm_ hc4;have HVC:Hid (C.l.length<=vc):=HJ3.out.2;clear hI PB3 BX3 HJ3 CT hN4 hg4 hc4 hb4 b0 b1 b2 b3 b4 b5 b6 z0 z1 z2 z3 t0 t1 t2 t3 t4 t5 t6 s0 s1 s2 s3 s4 s5 s6;obtain ⟨b0,b1,b2,b3,b4,b5,b6⟩:=X4.out.1.x.c7;obtain ⟨s0,s1,s2,s3,s4,s5,s6⟩:=X4.out.1.x.f7;go_upto_region 12 with fail;refine zH_ (fun W=>PB w W [.int .i64 o.x.id,.int .i64 (o.x.n+1),.int .i64 o.x.cut,.slice p' (setM ⟨C,vo,vc⟩ o.ms).length c',.slice o.p1 o.x.fd.length o.c1,.slice o.p2 o.su.length o.c2,.slice o.p3 o.un.length o.c3] o.x.id o.x.n∧Box W g14 [.slice vo C.l.length vc,.int .i64 C.a,.int .i64 C.b,.int .i64 C.c]∧GRow (w.heap.size+5) W vo (flat C.l)∧GRow (w.heap.size+5) W p' (zp_ (setM ⟨C,vo,vc⟩ o.ms))) ⟨by have:=X4.out.1.at (i:=1) (u:=.int .i64 (o.x.n+1)) (by simp); simpa using this,X4.out.2.1.oth (by omega),X4.out.2.2.1.keep (zc_ (by omega)),X4.out.2.2.2.keep (zc_ (by omega))⟩ (fun W5 hI=>?_);have PB5:Hid _:=hI.1;have BX5:Hid _:=hI.2.1;have HR5:Hid _:=hI.2.2;clear hI X4 b0 b1 b2 b3 b4 b5 b6 s0 s1 s2 s3 s4 s5 s6
  go_cut [12] from 58 to 67 (fun s12 wc=>s12=.int .i64 0∧∃ (pf:Option Addr) (cf:Nat),PB w wc [.int .i64 o.x.id,.int .i64 (o.x.n+1),.int .i64 o.x.cut,.slice p' (setM ⟨C,vo,vc⟩ o.ms).length c',.slice pf (o.x.fd.length+1) cf,.slice o.p2 o.su.length o.c2,.slice o.p3 o.un.length o.c3] o.x.id o.x.n∧Box wc g14 [.slice vo C.l.length vc,.int .i64 C.a,.int .i64 C.b,.int .i64 C.c]∧(GRow (w.heap.size+5) wc vo (flat C.l)∧GRow (w.heap.size+5) wc p' (zp_ (setM ⟨C,vo,vc⟩ o.ms)))∧(GRow (w.heap.size+5) wc pf (zl_ (o.x.fd++[⟨o.x.id,o.x.n+1,k⟩]))∧o.x.fd.length+1<=cf))
  case first=>
   refine wp_region_held_drew (S:=(fun w'=>w'.cell? ⟨w.heap.size+1+1+1+1,0,none⟩=some (.int .i64 o.x.id)∧w'.cell? ⟨w.heap.size+1+1+1+1,1,none⟩=some (.int .i64 (o.x.n+1)))) (by kernel_rfl) ?_ (fun hH=>?_)
   ·(try dsimp only);exact (PB5.out.d.next (zd_ _)).c2
   have BW:Hid (Below W5.heap.size W5 W5.drew):=zd_ _;refine wTk 1 ?_;refine wTk 4 ?_;refine wTk 5 ?_;refine wTk 6 ?_;generalize W5.drew=wd at *;refine wpAnyH_ready (rs:=[0,2,7]) (by kernel_rfl) (by simp) ?_;refine .cons rfl (fun K hK=>?_) (.cons rfl (fun K hK=>?_) (.cons rfl (fun K hK=>?_) .nil))
   ·refine wLy ?_;go_simp;(try simp only []);have OW:Hid (OwnG (wd.alloc (.cells #[] 52)) 52 3 (.slice (some ⟨wd.heap.size,0,none⟩) 0 0) 0 [] W5.heap.size):=OwnG.lit BW.out.size;replace BW:=ze_ BW (zb_ wd (.cells #[] 52));refine wHk hK ((PB5.out.d.next BW.out).c2) ?_;clear hK K hH;intro hH;generalize wd.alloc (.cells #[] 52)=x0 at *;generalize wd.heap.size=g0 at *;refine wpAnyH_ready (rs:=[2,7]) (by kernel_rfl) (by simp) ?_;refine .cons rfl (fun K hK=>?_) (.cons rfl (fun K hK=>?_) .nil)
    ·obtain ⟨b0,b1,b2,b3,b4,b5,b6⟩:=(PB5.out.x.next BW.out).c7;refine wLy ?_;go_simp;(try simp only []);refine wHk hK ((PB5.out.d.next BW.out).c2) ?_;clear hK K hH;intro hH;clear b0 b1 b2 b3 b4 b5 b6;refine wpAnyH_ready (rs:=[3,7]) (by kernel_rfl) (by simp) ?_;refine .cons rfl (fun K hK=>?_) (.cons rfl (fun K hK=>?_) .nil)
     focus
      refine wLy ?_;rw [if_pos (by rfl)];refine zx_ elE (.tmp 58) (.tmp 60) rfl (.slice (some ⟨g0,0,none⟩) 0 0) 0 [] W5.heap.size o.x.fd.length rfl OW.out BW.out.size o.p1 o.x.fd.length o.c1 (zl_ o.x.fd) rfl (zO_ _) (zv_ _) lo (h.out.next (PB5.out.next BW.out).b).r1 (by omega) (by omega) ?_;intro v3 c3 x1 hO3 hG3 hS3;replace BW:Hid (Below W5.heap.size W5 x1):=BW.out.trans (hG3.below BW.out.size OW.out.ge);replace OW:Hid (OwnG x1 52 3 (.slice v3 o.x.fd.length c3) o.x.fd.length (zl_ o.x.fd) W5.heap.size):=by show OwnG _ _ _ _ _ _ _; simpa using hO3
      clear hO3 hG3 hS3;refine wHk hK ((PB5.out.d.next BW.out).c2) ?_;clear hK K hH;intro hH;refine wRd 7 (fun K hK=>?_);go_simp;(try simp only []);have LT:Hid (GRow 0 (x1.alloc (.cells #[.int .i64 o.x.id,.int .i64 (o.x.n+1),.string k] 52)) (some ⟨x1.heap.size,0,none⟩) (zl_ [⟨o.x.id,o.x.n+1,k⟩])):=yD_;have GL:Hid (x1.heap.size < (x1.alloc (.cells #[.int .i64 o.x.id,.int .i64 (o.x.n+1),.string k] 52)).heap.size):=z8_;have NE:Hid ((Value.slice v3 o.x.fd.length c3).ownBlock≠some x1.heap.size):=fun e=>by have:=(OW.out.lt _ e).2; omega
      replace OW:Hid _:=OW.out.next (zb_ _ (.cells #[.int .i64 o.x.id,.int .i64 (o.x.n+1),.string k] 52));replace BW:=ze_ BW (zb_ x1 (.cells #[.int .i64 o.x.id,.int .i64 (o.x.n+1),.string k] 52));refine wHk hK ((PB5.out.d.next BW.out).c2) ?_;clear hK K hH;intro hH;generalize x1.alloc (.cells #[.int .i64 o.x.id,.int .i64 (o.x.n+1),.string k] 52)=x2 at *;generalize x1.heap.size=gl at *
     rotate_left
     focus
      refine wLy ?_;go_simp;(try simp only []);have LT:Hid (GRow 0 (x0.alloc (.cells #[.int .i64 o.x.id,.int .i64 (o.x.n+1),.string k] 52)) (some ⟨x0.heap.size,0,none⟩) (zl_ [⟨o.x.id,o.x.n+1,k⟩])):=yD_;have GL:Hid (x0.heap.size < (x0.alloc (.cells #[.int .i64 o.x.id,.int .i64 (o.x.n+1),.string k] 52)).heap.size):=z8_;have NE:Hid ((Value.slice (some ⟨g0,0,none⟩) 0 0).ownBlock≠some x0.heap.size):=fun e=>by have:=(OW.out.lt _ e).2; omega
      replace OW:Hid _:=OW.out.next (zb_ _ (.cells #[.int .i64 o.x.id,.int .i64 (o.x.n+1),.string k] 52));replace BW:=ze_ BW (zb_ x0 (.cells #[.int .i64 o.x.id,.int .i64 (o.x.n+1),.string k] 52));refine wHk hK ((PB5.out.d.next BW.out).c2) ?_;clear hK K hH;intro hH;generalize x0.alloc (.cells #[.int .i64 o.x.id,.int .i64 (o.x.n+1),.string k] 52)=x1 at *;generalize x0.heap.size=gl at *;refine wRd 3 (fun K hK=>?_);rw [if_pos (by rfl)];refine zx_ elE (.tmp 58) (.tmp 60) rfl (.slice (some ⟨g0,0,none⟩) 0 0) 0 [] W5.heap.size o.x.fd.length rfl OW.out BW.out.size o.p1 o.x.fd.length o.c1 (zl_ o.x.fd) rfl (zO_ _) (zv_ _) lo (h.out.next (PB5.out.next BW.out).b).r1 (by omega) (by omega) ?_;intro v3 c3 x2 hO3 hG3 hS3;replace LT:Hid (GRow 0 _ (some ⟨gl,0,none⟩) (zl_ [⟨o.x.id,o.x.n+1,k⟩])):=LT.out.gro hG3 (fun k hk x hx _ e=>by cases hx; exact NE.out (by rw [hk]; exact congrArg some e.symm));replace NE:Hid _:=hG3.ne GL.out NE.out;replace GL:Hid _:=Nat.lt_of_lt_of_le GL.out hG3.size;replace BW:Hid (Below W5.heap.size W5 x2):=BW.out.trans (hG3.below BW.out.size OW.out.ge);replace OW:Hid (OwnG x2 52 3 (.slice v3 o.x.fd.length c3) o.x.fd.length (zl_ o.x.fd) W5.heap.size):=by show OwnG _ _ _ _ _ _ _; simpa using hO3
      clear hO3 hG3 hS3;refine wHk hK ((PB5.out.d.next BW.out).c2) ?_;clear hK K hH;intro hH
     rotate_left
     all_goals
      refine wRd 8 (fun K hK=>?_);rw [if_pos (by rfl)];refine zx_ elE (.tmp 61) (.tmp 65) rfl (.slice v3 o.x.fd.length c3) o.x.fd.length (zl_ o.x.fd) W5.heap.size (o.x.fd.length+1) rfl OW.out BW.out.size (some ⟨gl,0,none⟩) 1 1 (zl_ [⟨o.x.id,o.x.n+1,k⟩]) rfl rfl (zv_ _) 0 LT.out (by omega) rfl ?_;intro pf cf x3 hO8 hG8 hS8;replace BW:Hid (Below W5.heap.size W5 x3):=BW.out.trans (hG8.below BW.out.size OW.out.ge);replace OW:=hm_ hO8;clear hO8 hG8 hS8;refine wHk hK ((PB5.out.d.next BW.out).c2) ?_;clear hK K hH;intro hH;refine wTk 9 ?_;obtain ⟨b0,b1,b2,b3,b4,b5,b6⟩:=(PB5.out.x.next BW.out).c7;obtain ⟨f0,f1,f2,f3,f4,f5,f6⟩:=(PB5.out.x.next BW.out).f7
      have PB9:Hid (PB w (x3.setCell ⟨w.heap.size,4,none⟩ (.slice pf (o.x.fd.length+1) cf)) [.int .i64 o.x.id,.int .i64 (o.x.n+1),.int .i64 o.x.cut,.slice p' (setM ⟨C,vo,vc⟩ o.ms).length c',.slice pf (o.x.fd.length+1) cf,.slice o.p2 o.su.length o.c2,.slice o.p3 o.un.length o.c3] o.x.id o.x.n):=by
       have:=(PB5.out.next BW.out).at (i:=4) (u:=.slice pf (o.x.fd.length+1) cf) (by simp)
       show PB _ _ _ _ _
       simpa using this
      have BX9:Hid (Box (x3.setCell ⟨w.heap.size,4,none⟩ (.slice pf (o.x.fd.length+1) cf)) g14 [.slice vo C.l.length vc,.int .i64 C.a,.int .i64 C.b,.int .i64 C.c]):=(BX5.out.next BW.out).oth (by omega);have HR9:Hid (GRow (w.heap.size+5) (x3.setCell ⟨w.heap.size,4,none⟩ (.slice pf (o.x.fd.length+1) cf)) vo (flat C.l)∧GRow (w.heap.size+5) (x3.setCell ⟨w.heap.size,4,none⟩ (.slice pf (o.x.fd.length+1) cf)) p' (zp_ (setM ⟨C,vo,vc⟩ o.ms))):=⟨(HR5.out.1.next BW.out).keep (zc_ (by omega)),(HR5.out.2.next BW.out).keep (zc_ (by omega))⟩
      have HF9:Hid (GRow (w.heap.size+5) (x3.setCell ⟨w.heap.size,4,none⟩ (.slice pf (o.x.fd.length+1) cf)) pf (zl_ (o.x.fd++[⟨o.x.id,o.x.n+1,k⟩]))∧o.x.fd.length+1<=cf):=by
       obtain ⟨pp,cc,ee,hcc,hgg⟩:=OW.out.grow;cases ee;refine ⟨?_,hcc⟩;rw [z9_];exact (hgg.weak (by have:=PB5.out.d.lt; omega)).keep (zc_ (by omega))
      refine wRd 10 (fun K hK=>?_);go_simp;(try simp only []);refine wHk hK (PB9.out.d.c2) ?_;clear hK K hH;intro hH;refine wDn ?_;clear hH b0 b1 b2 b3 b4 b5 b6 f0 f1 f2 f3 f4 f5 f6;go_wp2_with fail;go_meet
      case rel=>exact ⟨rfl,pf,cf,PB9.out,BX9.out,HR9.out,HF9.out⟩
    ·refine wLy ?_;go_simp;(try simp only []);have LT:Hid (GRow 0 (x0.alloc (.cells #[.int .i64 o.x.id,.int .i64 (o.x.n+1),.string k] 52)) (some ⟨x0.heap.size,0,none⟩) (zl_ [⟨o.x.id,o.x.n+1,k⟩])):=yD_;have GL:Hid (x0.heap.size < (x0.alloc (.cells #[.int .i64 o.x.id,.int .i64 (o.x.n+1),.string k] 52)).heap.size):=z8_;have NE:Hid ((Value.slice (some ⟨g0,0,none⟩) 0 0).ownBlock≠some x0.heap.size):=fun e=>by have:=(OW.out.lt _ e).2; omega
     replace OW:Hid _:=OW.out.next (zb_ _ (.cells #[.int .i64 o.x.id,.int .i64 (o.x.n+1),.string k] 52));replace BW:=ze_ BW (zb_ x0 (.cells #[.int .i64 o.x.id,.int .i64 (o.x.n+1),.string k] 52));refine wHk hK ((PB5.out.d.next BW.out).c2) ?_;clear hK K hH;intro hH;generalize x0.alloc (.cells #[.int .i64 o.x.id,.int .i64 (o.x.n+1),.string k] 52)=x1 at *;generalize x0.heap.size=gl at *;refine wpAnyH_ready (rs:=[2]) (by kernel_rfl) (by simp) ?_;refine .cons rfl (fun K hK=>?_) .nil;obtain ⟨b0,b1,b2,b3,b4,b5,b6⟩:=(PB5.out.x.next BW.out).c7;refine wLy ?_;go_simp;(try simp only []);refine wHk hK ((PB5.out.d.next BW.out).c2) ?_;clear hK K hH;intro hH;clear b0 b1 b2 b3 b4 b5 b6;refine wRd 3 (fun K hK=>?_);rw [if_pos (by rfl)];refine zx_ elE (.tmp 58) (.tmp 60) rfl (.slice (some ⟨g0,0,none⟩) 0 0) 0 [] W5.heap.size o.x.fd.length rfl OW.out BW.out.size o.p1 o.x.fd.length o.c1 (zl_ o.x.fd) rfl (zO_ _) (zv_ _) lo (h.out.next (PB5.out.next BW.out).b).r1 (by omega) (by omega) ?_;intro v3 c3 x2 hO3 hG3 hS3;replace LT:Hid (GRow 0 _ (some ⟨gl,0,none⟩) (zl_ [⟨o.x.id,o.x.n+1,k⟩])):=LT.out.gro hG3 (fun k hk x hx _ e=>by cases hx; exact NE.out (by rw [hk]; exact congrArg some e.symm));replace NE:Hid _:=hG3.ne GL.out NE.out;replace GL:Hid _:=Nat.lt_of_lt_of_le GL.out hG3.size;replace BW:Hid (Below W5.heap.size W5 x2):=BW.out.trans (hG3.below BW.out.size OW.out.ge);replace OW:Hid (OwnG x2 52 3 (.slice v3 o.x.fd.length c3) o.x.fd.length (zl_ o.x.fd) W5.heap.size):=by show OwnG _ _ _ _ _ _ _; simpa using hO3
     clear hO3 hG3 hS3;refine wHk hK ((PB5.out.d.next BW.out).c2) ?_;clear hK K hH;intro hH;refine wRd 8 (fun K hK=>?_);rw [if_pos (by rfl)];refine zx_ elE (.tmp 61) (.tmp 65) rfl (.slice v3 o.x.fd.length c3) o.x.fd.length (zl_ o.x.fd) W5.heap.size (o.x.fd.length+1) rfl OW.out BW.out.size (some ⟨gl,0,none⟩) 1 1 (zl_ [⟨o.x.id,o.x.n+1,k⟩]) rfl rfl (zv_ _) 0 LT.out (by omega) rfl ?_;intro pf cf x3 hO8 hG8 hS8;replace BW:Hid (Below W5.heap.size W5 x3):=BW.out.trans (hG8.below BW.out.size OW.out.ge);replace OW:=hm_ hO8;clear hO8 hG8 hS8;refine wHk hK ((PB5.out.d.next BW.out).c2) ?_;clear hK K hH;intro hH;refine wTk 9 ?_;obtain ⟨b0,b1,b2,b3,b4,b5,b6⟩:=(PB5.out.x.next BW.out).c7;obtain ⟨f0,f1,f2,f3,f4,f5,f6⟩:=(PB5.out.x.next BW.out).f7
     have PB9:Hid (PB w (x3.setCell ⟨w.heap.size,4,none⟩ (.slice pf (o.x.fd.length+1) cf)) [.int .i64 o.x.id,.int .i64 (o.x.n+1),.int .i64 o.x.cut,.slice p' (setM ⟨C,vo,vc⟩ o.ms).length c',.slice pf (o.x.fd.length+1) cf,.slice o.p2 o.su.length o.c2,.slice o.p3 o.un.length o.c3] o.x.id o.x.n):=by
      have:=(PB5.out.next BW.out).at (i:=4) (u:=.slice pf (o.x.fd.length+1) cf) (by simp)
      show PB _ _ _ _ _
      simpa using this
     have BX9:Hid (Box (x3.setCell ⟨w.heap.size,4,none⟩ (.slice pf (o.x.fd.length+1) cf)) g14 [.slice vo C.l.length vc,.int .i64 C.a,.int .i64 C.b,.int .i64 C.c]):=(BX5.out.next BW.out).oth (by omega);have HR9:Hid (GRow (w.heap.size+5) (x3.setCell ⟨w.heap.size,4,none⟩ (.slice pf (o.x.fd.length+1) cf)) vo (flat C.l)∧GRow (w.heap.size+5) (x3.setCell ⟨w.heap.size,4,none⟩ (.slice pf (o.x.fd.length+1) cf)) p' (zp_ (setM ⟨C,vo,vc⟩ o.ms))):=⟨(HR5.out.1.next BW.out).keep (zc_ (by omega)),(HR5.out.2.next BW.out).keep (zc_ (by omega))⟩
     have HF9:Hid (GRow (w.heap.size+5) (x3.setCell ⟨w.heap.size,4,none⟩ (.slice pf (o.x.fd.length+1) cf)) pf (zl_ (o.x.fd++[⟨o.x.id,o.x.n+1,k⟩]))∧o.x.fd.length+1<=cf):=by
      obtain ⟨pp,cc,ee,hcc,hgg⟩:=OW.out.grow;cases ee;refine ⟨?_,hcc⟩;rw [z9_];exact (hgg.weak (by have:=PB5.out.d.lt; omega)).keep (zc_ (by omega))
     refine wRd 10 (fun K hK=>?_);go_simp;(try simp only []);refine wHk hK (PB9.out.d.c2) ?_;clear hK K hH;intro hH;refine wDn ?_;clear hH b0 b1 b2 b3 b4 b5 b6 f0 f1 f2 f3 f4 f5 f6;go_wp2_with fail;go_meet
     case rel=>exact ⟨rfl,pf,cf,PB9.out,BX9.out,HR9.out,HF9.out⟩
   ·obtain ⟨b0,b1,b2,b3,b4,b5,b6⟩:=(PB5.out.x.next BW.out).c7;refine wLy ?_;go_simp;(try simp only []);refine wHk hK ((PB5.out.d.next BW.out).c2) ?_;clear hK K hH;intro hH;clear b0 b1 b2 b3 b4 b5 b6;refine wpAnyH_ready (rs:=[0,7]) (by kernel_rfl) (by simp) ?_;refine .cons rfl (fun K hK=>?_) (.cons rfl (fun K hK=>?_) .nil)
    ·refine wLy ?_;go_simp;(try simp only []);have OW:Hid (OwnG (wd.alloc (.cells #[] 52)) 52 3 (.slice (some ⟨wd.heap.size,0,none⟩) 0 0) 0 [] W5.heap.size):=OwnG.lit BW.out.size;replace BW:=ze_ BW (zb_ wd (.cells #[] 52));refine wHk hK ((PB5.out.d.next BW.out).c2) ?_;clear hK K hH;intro hH;generalize wd.alloc (.cells #[] 52)=x0 at *;generalize wd.heap.size=g0 at *;refine wpAnyH_ready (rs:=[3,7]) (by kernel_rfl) (by simp) ?_;refine .cons rfl (fun K hK=>?_) (.cons rfl (fun K hK=>?_) .nil)
     focus
      refine wLy ?_;rw [if_pos (by rfl)];refine zx_ elE (.tmp 58) (.tmp 60) rfl (.slice (some ⟨g0,0,none⟩) 0 0) 0 [] W5.heap.size o.x.fd.length rfl OW.out BW.out.size o.p1 o.x.fd.length o.c1 (zl_ o.x.fd) rfl (zO_ _) (zv_ _) lo (h.out.next (PB5.out.next BW.out).b).r1 (by omega) (by omega) ?_;intro v3 c3 x1 hO3 hG3 hS3;replace BW:Hid (Below W5.heap.size W5 x1):=BW.out.trans (hG3.below BW.out.size OW.out.ge);replace OW:Hid (OwnG x1 52 3 (.slice v3 o.x.fd.length c3) o.x.fd.length (zl_ o.x.fd) W5.heap.size):=by show OwnG _ _ _ _ _ _ _; simpa using hO3
      clear hO3 hG3 hS3;refine wHk hK ((PB5.out.d.next BW.out).c2) ?_;clear hK K hH;intro hH;refine wRd 7 (fun K hK=>?_);go_simp;(try simp only []);have LT:Hid (GRow 0 (x1.alloc (.cells #[.int .i64 o.x.id,.int .i64 (o.x.n+1),.string k] 52)) (some ⟨x1.heap.size,0,none⟩) (zl_ [⟨o.x.id,o.x.n+1,k⟩])):=yD_;have GL:Hid (x1.heap.size < (x1.alloc (.cells #[.int .i64 o.x.id,.int .i64 (o.x.n+1),.string k] 52)).heap.size):=z8_;have NE:Hid ((Value.slice v3 o.x.fd.length c3).ownBlock≠some x1.heap.size):=fun e=>by have:=(OW.out.lt _ e).2; omega
      replace OW:Hid _:=OW.out.next (zb_ _ (.cells #[.int .i64 o.x.id,.int .i64 (o.x.n+1),.string k] 52));replace BW:=ze_ BW (zb_ x1 (.cells #[.int .i64 o.x.id,.int .i64 (o.x.n+1),.string k] 52));refine wHk hK ((PB5.out.d.next BW.out).c2) ?_;clear hK K hH;intro hH;generalize x1.alloc (.cells #[.int .i64 o.x.id,.int .i64 (o.x.n+1),.string k] 52)=x2 at *;generalize x1.heap.size=gl at *
     rotate_left
     focus
      refine wLy ?_;go_simp;(try simp only []);have LT:Hid (GRow 0 (x0.alloc (.cells #[.int .i64 o.x.id,.int .i64 (o.x.n+1),.string k] 52)) (some ⟨x0.heap.size,0,none⟩) (zl_ [⟨o.x.id,o.x.n+1,k⟩])):=yD_;have GL:Hid (x0.heap.size < (x0.alloc (.cells #[.int .i64 o.x.id,.int .i64 (o.x.n+1),.string k] 52)).heap.size):=z8_;have NE:Hid ((Value.slice (some ⟨g0,0,none⟩) 0 0).ownBlock≠some x0.heap.size):=fun e=>by have:=(OW.out.lt _ e).2; omega
      replace OW:Hid _:=OW.out.next (zb_ _ (.cells #[.int .i64 o.x.id,.int .i64 (o.x.n+1),.string k] 52));replace BW:=ze_ BW (zb_ x0 (.cells #[.int .i64 o.x.id,.int .i64 (o.x.n+1),.string k] 52));refine wHk hK ((PB5.out.d.next BW.out).c2) ?_;clear hK K hH;intro hH;generalize x0.alloc (.cells #[.int .i64 o.x.id,.int .i64 (o.x.n+1),.string k] 52)=x1 at *;generalize x0.heap.size=gl at *;refine wRd 3 (fun K hK=>?_);rw [if_pos (by rfl)];refine zx_ elE (.tmp 58) (.tmp 60) rfl (.slice (some ⟨g0,0,none⟩) 0 0) 0 [] W5.heap.size o.x.fd.length rfl OW.out BW.out.size o.p1 o.x.fd.length o.c1 (zl_ o.x.fd) rfl (zO_ _) (zv_ _) lo (h.out.next (PB5.out.next BW.out).b).r1 (by omega) (by omega) ?_;intro v3 c3 x2 hO3 hG3 hS3;replace LT:Hid (GRow 0 _ (some ⟨gl,0,none⟩) (zl_ [⟨o.x.id,o.x.n+1,k⟩])):=LT.out.gro hG3 (fun k hk x hx _ e=>by cases hx; exact NE.out (by rw [hk]; exact congrArg some e.symm));replace NE:Hid _:=hG3.ne GL.out NE.out;replace GL:Hid _:=Nat.lt_of_lt_of_le GL.out hG3.size;replace BW:Hid (Below W5.heap.size W5 x2):=BW.out.trans (hG3.below BW.out.size OW.out.ge);replace OW:Hid (OwnG x2 52 3 (.slice v3 o.x.fd.length c3) o.x.fd.length (zl_ o.x.fd) W5.heap.size):=by show OwnG _ _ _ _ _ _ _; simpa using hO3
      clear hO3 hG3 hS3;refine wHk hK ((PB5.out.d.next BW.out).c2) ?_;clear hK K hH;intro hH
     rotate_left
     all_goals
      refine wRd 8 (fun K hK=>?_);rw [if_pos (by rfl)];refine zx_ elE (.tmp 61) (.tmp 65) rfl (.slice v3 o.x.fd.length c3) o.x.fd.length (zl_ o.x.fd) W5.heap.size (o.x.fd.length+1) rfl OW.out BW.out.size (some ⟨gl,0,none⟩) 1 1 (zl_ [⟨o.x.id,o.x.n+1,k⟩]) rfl rfl (zv_ _) 0 LT.out (by omega) rfl ?_;intro pf cf x3 hO8 hG8 hS8;replace BW:Hid (Below W5.heap.size W5 x3):=BW.out.trans (hG8.below BW.out.size OW.out.ge);replace OW:=hm_ hO8;clear hO8 hG8 hS8;refine wHk hK ((PB5.out.d.next BW.out).c2) ?_;clear hK K hH;intro hH;refine wTk 9 ?_;obtain ⟨b0,b1,b2,b3,b4,b5,b6⟩:=(PB5.out.x.next BW.out).c7;obtain ⟨f0,f1,f2,f3,f4,f5,f6⟩:=(PB5.out.x.next BW.out).f7
      have PB9:Hid (PB w (x3.setCell ⟨w.heap.size,4,none⟩ (.slice pf (o.x.fd.length+1) cf)) [.int .i64 o.x.id,.int .i64 (o.x.n+1),.int .i64 o.x.cut,.slice p' (setM ⟨C,vo,vc⟩ o.ms).length c',.slice pf (o.x.fd.length+1) cf,.slice o.p2 o.su.length o.c2,.slice o.p3 o.un.length o.c3] o.x.id o.x.n):=by
       have:=(PB5.out.next BW.out).at (i:=4) (u:=.slice pf (o.x.fd.length+1) cf) (by simp)
       show PB _ _ _ _ _
       simpa using this
      have BX9:Hid (Box (x3.setCell ⟨w.heap.size,4,none⟩ (.slice pf (o.x.fd.length+1) cf)) g14 [.slice vo C.l.length vc,.int .i64 C.a,.int .i64 C.b,.int .i64 C.c]):=(BX5.out.next BW.out).oth (by omega);have HR9:Hid (GRow (w.heap.size+5) (x3.setCell ⟨w.heap.size,4,none⟩ (.slice pf (o.x.fd.length+1) cf)) vo (flat C.l)∧GRow (w.heap.size+5) (x3.setCell ⟨w.heap.size,4,none⟩ (.slice pf (o.x.fd.length+1) cf)) p' (zp_ (setM ⟨C,vo,vc⟩ o.ms))):=⟨(HR5.out.1.next BW.out).keep (zc_ (by omega)),(HR5.out.2.next BW.out).keep (zc_ (by omega))⟩
      have HF9:Hid (GRow (w.heap.size+5) (x3.setCell ⟨w.heap.size,4,none⟩ (.slice pf (o.x.fd.length+1) cf)) pf (zl_ (o.x.fd++[⟨o.x.id,o.x.n+1,k⟩]))∧o.x.fd.length+1<=cf):=by
       obtain ⟨pp,cc,ee,hcc,hgg⟩:=OW.out.grow;cases ee;refine ⟨?_,hcc⟩;rw [z9_];exact (hgg.weak (by have:=PB5.out.d.lt; omega)).keep (zc_ (by omega))
      refine wRd 10 (fun K hK=>?_);go_simp;(try simp only []);refine wHk hK (PB9.out.d.c2) ?_;clear hK K hH;intro hH;refine wDn ?_;clear hH b0 b1 b2 b3 b4 b5 b6 f0 f1 f2 f3 f4 f5 f6;go_wp2_with fail;go_meet
      case rel=>exact ⟨rfl,pf,cf,PB9.out,BX9.out,HR9.out,HF9.out⟩
    ·refine wLy ?_;go_simp;(try simp only []);have LT:Hid (GRow 0 (wd.alloc (.cells #[.int .i64 o.x.id,.int .i64 (o.x.n+1),.string k] 52)) (some ⟨wd.heap.size,0,none⟩) (zl_ [⟨o.x.id,o.x.n+1,k⟩])):=yD_;have GL:Hid (wd.heap.size < (wd.alloc (.cells #[.int .i64 o.x.id,.int .i64 (o.x.n+1),.string k] 52)).heap.size):=z8_;replace BW:=ze_ BW (zb_ wd (.cells #[.int .i64 o.x.id,.int .i64 (o.x.n+1),.string k] 52));refine wHk hK ((PB5.out.d.next BW.out).c2) ?_;clear hK K hH;intro hH;generalize wd.alloc (.cells #[.int .i64 o.x.id,.int .i64 (o.x.n+1),.string k] 52)=x0 at *;generalize wd.heap.size=gl at *;refine wRd 0 (fun K hK=>?_);go_simp;(try simp only []);have OW:Hid (OwnG (x0.alloc (.cells #[] 52)) 52 3 (.slice (some ⟨x0.heap.size,0,none⟩) 0 0) 0 [] W5.heap.size):=OwnG.lit BW.out.size;have NE:Hid ((Value.slice (some ⟨x0.heap.size,0,none⟩) 0 0).ownBlock≠some gl):=fun e=>by simp [Value.ownBlock] at e; have:=GL.out; omega
     replace LT:Hid (GRow 0 _ (some ⟨gl,0,none⟩) (zl_ [⟨o.x.id,o.x.n+1,k⟩])):=LT.out.next (zb_ _ (.cells #[] 52));replace GL:Hid _:=Nat.lt_of_lt_of_le GL.out (zb_ x0 (.cells #[] 52)).size;replace BW:=ze_ BW (zb_ x0 (.cells #[] 52));refine wHk hK ((PB5.out.d.next BW.out).c2) ?_;clear hK K hH;intro hH;generalize x0.alloc (.cells #[] 52)=x1 at *;generalize x0.heap.size=g0 at *;refine wRd 3 (fun K hK=>?_);rw [if_pos (by rfl)];refine zx_ elE (.tmp 58) (.tmp 60) rfl (.slice (some ⟨g0,0,none⟩) 0 0) 0 [] W5.heap.size o.x.fd.length rfl OW.out BW.out.size o.p1 o.x.fd.length o.c1 (zl_ o.x.fd) rfl (zO_ _) (zv_ _) lo (h.out.next (PB5.out.next BW.out).b).r1 (by omega) (by omega) ?_;intro v3 c3 x2 hO3 hG3 hS3;replace LT:Hid (GRow 0 _ (some ⟨gl,0,none⟩) (zl_ [⟨o.x.id,o.x.n+1,k⟩])):=LT.out.gro hG3 (fun k hk x hx _ e=>by cases hx; exact NE.out (by rw [hk]; exact congrArg some e.symm));replace NE:Hid _:=hG3.ne GL.out NE.out;replace GL:Hid _:=Nat.lt_of_lt_of_le GL.out hG3.size;replace BW:Hid (Below W5.heap.size W5 x2):=BW.out.trans (hG3.below BW.out.size OW.out.ge);replace OW:Hid (OwnG x2 52 3 (.slice v3 o.x.fd.length c3) o.x.fd.length (zl_ o.x.fd) W5.heap.size):=by show OwnG _ _ _ _ _ _ _; simpa using hO3
     clear hO3 hG3 hS3;refine wHk hK ((PB5.out.d.next BW.out).c2) ?_;clear hK K hH;intro hH;refine wRd 8 (fun K hK=>?_);rw [if_pos (by rfl)];refine zx_ elE (.tmp 61) (.tmp 65) rfl (.slice v3 o.x.fd.length c3) o.x.fd.length (zl_ o.x.fd) W5.heap.size (o.x.fd.length+1) rfl OW.out BW.out.size (some ⟨gl,0,none⟩) 1 1 (zl_ [⟨o.x.id,o.x.n+1,k⟩]) rfl rfl (zv_ _) 0 LT.out (by omega) rfl ?_;intro pf cf x3 hO8 hG8 hS8;replace BW:Hid (Below W5.heap.size W5 x3):=BW.out.trans (hG8.below BW.out.size OW.out.ge);replace OW:=hm_ hO8;clear hO8 hG8 hS8;refine wHk hK ((PB5.out.d.next BW.out).c2) ?_;clear hK K hH;intro hH;refine wTk 9 ?_;obtain ⟨b0,b1,b2,b3,b4,b5,b6⟩:=(PB5.out.x.next BW.out).c7;obtain ⟨f0,f1,f2,f3,f4,f5,f6⟩:=(PB5.out.x.next BW.out).f7
     have PB9:Hid (PB w (x3.setCell ⟨w.heap.size,4,none⟩ (.slice pf (o.x.fd.length+1) cf)) [.int .i64 o.x.id,.int .i64 (o.x.n+1),.int .i64 o.x.cut,.slice p' (setM ⟨C,vo,vc⟩ o.ms).length c',.slice pf (o.x.fd.length+1) cf,.slice o.p2 o.su.length o.c2,.slice o.p3 o.un.length o.c3] o.x.id o.x.n):=by
      have:=(PB5.out.next BW.out).at (i:=4) (u:=.slice pf (o.x.fd.length+1) cf) (by simp)
      show PB _ _ _ _ _
      simpa using this
     have BX9:Hid (Box (x3.setCell ⟨w.heap.size,4,none⟩ (.slice pf (o.x.fd.length+1) cf)) g14 [.slice vo C.l.length vc,.int .i64 C.a,.int .i64 C.b,.int .i64 C.c]):=(BX5.out.next BW.out).oth (by omega);have HR9:Hid (GRow (w.heap.size+5) (x3.setCell ⟨w.heap.size,4,none⟩ (.slice pf (o.x.fd.length+1) cf)) vo (flat C.l)∧GRow (w.heap.size+5) (x3.setCell ⟨w.heap.size,4,none⟩ (.slice pf (o.x.fd.length+1) cf)) p' (zp_ (setM ⟨C,vo,vc⟩ o.ms))):=⟨(HR5.out.1.next BW.out).keep (zc_ (by omega)),(HR5.out.2.next BW.out).keep (zc_ (by omega))⟩
     have HF9:Hid (GRow (w.heap.size+5) (x3.setCell ⟨w.heap.size,4,none⟩ (.slice pf (o.x.fd.length+1) cf)) pf (zl_ (o.x.fd++[⟨o.x.id,o.x.n+1,k⟩]))∧o.x.fd.length+1<=cf):=by
      obtain ⟨pp,cc,ee,hcc,hgg⟩:=OW.out.grow;cases ee;refine ⟨?_,hcc⟩;rw [z9_];exact (hgg.weak (by have:=PB5.out.d.lt; omega)).keep (zc_ (by omega))
     refine wRd 10 (fun K hK=>?_);go_simp;(try simp only []);refine wHk hK (PB9.out.d.c2) ?_;clear hK K hH;intro hH;refine wDn ?_;clear hH b0 b1 b2 b3 b4 b5 b6 f0 f1 f2 f3 f4 f5 f6;go_wp2_with fail;go_meet
     case rel=>exact ⟨rfl,pf,cf,PB9.out,BX9.out,HR9.out,HF9.out⟩
   ·refine wLy ?_;go_simp;(try simp only []);have LT:Hid (GRow 0 (wd.alloc (.cells #[.int .i64 o.x.id,.int .i64 (o.x.n+1),.string k] 52)) (some ⟨wd.heap.size,0,none⟩) (zl_ [⟨o.x.id,o.x.n+1,k⟩])):=yD_;have GL:Hid (wd.heap.size < (wd.alloc (.cells #[.int .i64 o.x.id,.int .i64 (o.x.n+1),.string k] 52)).heap.size):=z8_;replace BW:=ze_ BW (zb_ wd (.cells #[.int .i64 o.x.id,.int .i64 (o.x.n+1),.string k] 52));refine wHk hK ((PB5.out.d.next BW.out).c2) ?_;clear hK K hH;intro hH;generalize wd.alloc (.cells #[.int .i64 o.x.id,.int .i64 (o.x.n+1),.string k] 52)=x0 at *;generalize wd.heap.size=gl at *;refine wpAnyH_ready (rs:=[0,2]) (by kernel_rfl) (by simp) ?_;refine .cons rfl (fun K hK=>?_) (.cons rfl (fun K hK=>?_) .nil)
    focus
     refine wLy ?_;go_simp;(try simp only []);have OW:Hid (OwnG (x0.alloc (.cells #[] 52)) 52 3 (.slice (some ⟨x0.heap.size,0,none⟩) 0 0) 0 [] W5.heap.size):=OwnG.lit BW.out.size;have NE:Hid ((Value.slice (some ⟨x0.heap.size,0,none⟩) 0 0).ownBlock≠some gl):=fun e=>by simp [Value.ownBlock] at e; have:=GL.out; omega
     replace LT:Hid (GRow 0 _ (some ⟨gl,0,none⟩) (zl_ [⟨o.x.id,o.x.n+1,k⟩])):=LT.out.next (zb_ _ (.cells #[] 52));replace GL:Hid _:=Nat.lt_of_lt_of_le GL.out (zb_ x0 (.cells #[] 52)).size;replace BW:=ze_ BW (zb_ x0 (.cells #[] 52));refine wHk hK ((PB5.out.d.next BW.out).c2) ?_;clear hK K hH;intro hH;generalize x0.alloc (.cells #[] 52)=x1 at *;generalize x0.heap.size=g0 at *;refine wpAnyH_ready (rs:=[2]) (by kernel_rfl) (by simp) ?_;refine .cons rfl (fun K hK=>?_) .nil;obtain ⟨b0,b1,b2,b3,b4,b5,b6⟩:=(PB5.out.x.next BW.out).c7;refine wLy ?_;go_simp;(try simp only []);refine wHk hK ((PB5.out.d.next BW.out).c2) ?_;clear hK K hH;intro hH;clear b0 b1 b2 b3 b4 b5 b6
    rotate_left
    focus
     obtain ⟨b0,b1,b2,b3,b4,b5,b6⟩:=(PB5.out.x.next BW.out).c7;refine wLy ?_;go_simp;(try simp only []);refine wHk hK ((PB5.out.d.next BW.out).c2) ?_;clear hK K hH;intro hH;clear b0 b1 b2 b3 b4 b5 b6;refine wRd 0 (fun K hK=>?_);go_simp;(try simp only []);have OW:Hid (OwnG (x0.alloc (.cells #[] 52)) 52 3 (.slice (some ⟨x0.heap.size,0,none⟩) 0 0) 0 [] W5.heap.size):=OwnG.lit BW.out.size;have NE:Hid ((Value.slice (some ⟨x0.heap.size,0,none⟩) 0 0).ownBlock≠some gl):=fun e=>by simp [Value.ownBlock] at e; have:=GL.out; omega
     replace LT:Hid (GRow 0 _ (some ⟨gl,0,none⟩) (zl_ [⟨o.x.id,o.x.n+1,k⟩])):=LT.out.next (zb_ _ (.cells #[] 52));replace GL:Hid _:=Nat.lt_of_lt_of_le GL.out (zb_ x0 (.cells #[] 52)).size;replace BW:=ze_ BW (zb_ x0 (.cells #[] 52));refine wHk hK ((PB5.out.d.next BW.out).c2) ?_;clear hK K hH;intro hH;generalize x0.alloc (.cells #[] 52)=x1 at *;generalize x0.heap.size=g0 at *
    rotate_left
    all_goals
     refine wRd 3 (fun K hK=>?_);rw [if_pos (by rfl)];refine zx_ elE (.tmp 58) (.tmp 60) rfl (.slice (some ⟨g0,0,none⟩) 0 0) 0 [] W5.heap.size o.x.fd.length rfl OW.out BW.out.size o.p1 o.x.fd.length o.c1 (zl_ o.x.fd) rfl (zO_ _) (zv_ _) lo (h.out.next (PB5.out.next BW.out).b).r1 (by omega) (by omega) ?_;intro v3 c3 x2 hO3 hG3 hS3;replace LT:Hid (GRow 0 _ (some ⟨gl,0,none⟩) (zl_ [⟨o.x.id,o.x.n+1,k⟩])):=LT.out.gro hG3 (fun k hk x hx _ e=>by cases hx; exact NE.out (by rw [hk]; exact congrArg some e.symm));replace NE:Hid _:=hG3.ne GL.out NE.out;replace GL:Hid _:=Nat.lt_of_lt_of_le GL.out hG3.size;replace BW:Hid (Below W5.heap.size W5 x2):=BW.out.trans (hG3.below BW.out.size OW.out.ge);replace OW:Hid (OwnG x2 52 3 (.slice v3 o.x.fd.length c3) o.x.fd.length (zl_ o.x.fd) W5.heap.size):=by show OwnG _ _ _ _ _ _ _; simpa using hO3
     clear hO3 hG3 hS3;refine wHk hK ((PB5.out.d.next BW.out).c2) ?_;clear hK K hH;intro hH;refine wRd 8 (fun K hK=>?_);rw [if_pos (by rfl)];refine zx_ elE (.tmp 61) (.tmp 65) rfl (.slice v3 o.x.fd.length c3) o.x.fd.length (zl_ o.x.fd) W5.heap.size (o.x.fd.length+1) rfl OW.out BW.out.size (some ⟨gl,0,none⟩) 1 1 (zl_ [⟨o.x.id,o.x.n+1,k⟩]) rfl rfl (zv_ _) 0 LT.out (by omega) rfl ?_;intro pf cf x3 hO8 hG8 hS8;replace BW:Hid (Below W5.heap.size W5 x3):=BW.out.trans (hG8.below BW.out.size OW.out.ge);replace OW:=hm_ hO8;clear hO8 hG8 hS8;refine wHk hK ((PB5.out.d.next BW.out).c2) ?_;clear hK K hH;intro hH;refine wTk 9 ?_;obtain ⟨b0,b1,b2,b3,b4,b5,b6⟩:=(PB5.out.x.next BW.out).c7;obtain ⟨f0,f1,f2,f3,f4,f5,f6⟩:=(PB5.out.x.next BW.out).f7
     have PB9:Hid (PB w (x3.setCell ⟨w.heap.size,4,none⟩ (.slice pf (o.x.fd.length+1) cf)) [.int .i64 o.x.id,.int .i64 (o.x.n+1),.int .i64 o.x.cut,.slice p' (setM ⟨C,vo,vc⟩ o.ms).length c',.slice pf (o.x.fd.length+1) cf,.slice o.p2 o.su.length o.c2,.slice o.p3 o.un.length o.c3] o.x.id o.x.n):=by
      have:=(PB5.out.next BW.out).at (i:=4) (u:=.slice pf (o.x.fd.length+1) cf) (by simp)
      show PB _ _ _ _ _
      simpa using this
     have BX9:Hid (Box (x3.setCell ⟨w.heap.size,4,none⟩ (.slice pf (o.x.fd.length+1) cf)) g14 [.slice vo C.l.length vc,.int .i64 C.a,.int .i64 C.b,.int .i64 C.c]):=(BX5.out.next BW.out).oth (by omega);have HR9:Hid (GRow (w.heap.size+5) (x3.setCell ⟨w.heap.size,4,none⟩ (.slice pf (o.x.fd.length+1) cf)) vo (flat C.l)∧GRow (w.heap.size+5) (x3.setCell ⟨w.heap.size,4,none⟩ (.slice pf (o.x.fd.length+1) cf)) p' (zp_ (setM ⟨C,vo,vc⟩ o.ms))):=⟨(HR5.out.1.next BW.out).keep (zc_ (by omega)),(HR5.out.2.next BW.out).keep (zc_ (by omega))⟩
     have HF9:Hid (GRow (w.heap.size+5) (x3.setCell ⟨w.heap.size,4,none⟩ (.slice pf (o.x.fd.length+1) cf)) pf (zl_ (o.x.fd++[⟨o.x.id,o.x.n+1,k⟩]))∧o.x.fd.length+1<=cf):=by
      obtain ⟨pp,cc,ee,hcc,hgg⟩:=OW.out.grow;cases ee;refine ⟨?_,hcc⟩;rw [z9_];exact (hgg.weak (by have:=PB5.out.d.lt; omega)).keep (zc_ (by omega))
     refine wRd 10 (fun K hK=>?_);go_simp;(try simp only []);refine wHk hK (PB9.out.d.c2) ?_;clear hK K hH;intro hH;refine wDn ?_;clear hH b0 b1 b2 b3 b4 b5 b6 f0 f1 f2 f3 f4 f5 f6;go_wp2_with fail;go_meet
     case rel=>exact ⟨rfl,pf,cf,PB9.out,BX9.out,HR9.out,HF9.out⟩
  case rest=>
   obtain ⟨rfl,pf,cf,hP6,hB6,hR6,hF6⟩:=hcut;have PB6:Hid _:=hP6;have BX6:Hid _:=hB6;have HR6:=hm_ hR6;have HF6:=hm_ hF6;clear hP6 hB6 hR6 hF6 PB5 BX5 HR5;generalize wc=W6 at *;have C3:Hid (∀ W,GRow (w.heap.size+5) W vo (flat C.l)->Calls Tryz.prog 105 #[.agg #[.slice vo C.l.length vc,.int .i64 C.a,.int .i64 C.b,.int .i64 C.c]] W fun e w'=>e=.returned (.string ⟨(objT (vvT C.a C.b C.c) C.l).toArray⟩)∧Below W.heap.size W w'):=fun W hW=>vJ_ vc vo C.l C.a C.b C.c _ W (vZ_ HC.out.2.1) HC.out.1 (fun s hs=>by obtain ⟨i,hi,rfl⟩:=List.mem_iff_getElem.1 hs; exact (HC.out.2.2 i hi).1) hW.sib (vvS HC.out.2.1)
   have CA:Hid (∀ W,Below w.heap.size w W->Calls Tryz.prog 82 #[.agg #[.slice o.p2 o.su.length o.c2,.slice o.p3 o.un.length o.c3],.string (((⟨#[112,117,116,32]⟩++k)++⟨#[32]⟩)++⟨(objT (vvT C.a C.b C.c) C.l).toArray⟩)] W fun e w'=>∃ p c,e=.returned (.agg #[.slice o.p2 o.su.length o.c2,.slice p (o.un.length+1) c])∧Below W.heap.size W w'∧OwnT w' (.slice p (o.un.length+1) c) (o.un++[zq_ (recT true C)]) W.heap.size):=fun W hW=>by
    have hrec:recT true C=(((⟨#[112,117,116,32]⟩++k)++⟨#[32]⟩)++⟨(objT (vvT C.a C.b C.c) C.l).toArray⟩:ByteArray):=by
     unfold recT;rw [HK.out];rfl
    have hsz:=yn_ true C (by rw [HK.out]; exact hk) HC.out
    have:=xs_ (.slice o.p2 o.su.length o.c2) (.slice o.p3 o.un.length o.c3) o.su o.un (recT true C) W hsz (by omega) (by omega) (h.out.next hW).row.1 (h.out.next hW).row.2
    rw [hrec] at this ⊢;refine this.mono ?_;rintro e w' ⟨p,c,h1,h2,_,h4⟩;exact ⟨p,c,h1,h2,h4⟩
   have hol:(objT (vvT C.a C.b C.c) C.l).length<=4000:=y9_ HC.out;have hz1:¬ (9223372036854775807 < 4+k.size):=by omega
   have hz2:¬ (9223372036854775807 < 4+k.size+1):=by omega
   have hz3:¬ (9223372036854775807 < 4+k.size+1+(objT (vvT C.a C.b C.c) C.l).length):=by omega
   go_upto_region 13 with fail
   go_cut [12] from 68 to 77 (fun s12 wc=>s12=.int .i64 0∧∃ (p9:Option Addr) (c9:Nat),PB w wc [.int .i64 o.x.id,.int .i64 (o.x.n+1),.int .i64 o.x.cut,.slice p' (setM ⟨C,vo,vc⟩ o.ms).length c',.slice pf (o.x.fd.length+1) cf,.slice o.p2 o.su.length o.c2,.slice p9 (o.un.length+1) c9] o.x.id o.x.n∧((GRow (w.heap.size+5) wc vo (flat C.l)∧GRow (w.heap.size+5) wc p' (zp_ (setM ⟨C,vo,vc⟩ o.ms)))∧(GRow (w.heap.size+5) wc pf (zl_ (o.x.fd++[⟨o.x.id,o.x.n+1,k⟩]))∧o.x.fd.length+1<=cf))∧(GRow (w.heap.size+5) wc p9 (V (o.un++[zq_ (recT true C)]))∧(o.un++[zq_ (recT true C)]).length<=c9))
   case first=>
    refine wp_region_held_drew (S:=(fun w'=>w'.cell? ⟨g14,0,none⟩=some (.slice vo C.l.length vc)∧w'.cell? ⟨g14,1,none⟩=some (.int .i64 C.a)∧w'.cell? ⟨g14,2,none⟩=some (.int .i64 C.b)∧w'.cell? ⟨g14,3,none⟩=some (.int .i64 C.c))) (by kernel_rfl) ?_ (fun hH=>?_)
    ·(try dsimp only);exact (BX6.out.next (zd_ _)).c4
    have BW:Hid (Below W6.heap.size W6 W6.drew):=zd_ _;refine wTk 0 ?_;refine wTk 2 ?_;refine wTk 3 ?_;refine wTk 4 ?_;refine wTk 5 ?_;generalize W6.drew=wd at *;refine wpAnyH_ready (rs:=[1,6]) (by kernel_rfl) (by simp) ?_;refine .cons rfl (fun K hK=>?_) (.cons rfl (fun K hK=>?_) .nil)
    focus
     obtain ⟨b0,b1,b2,b3,b4,b5,b6⟩:=(PB6.out.x.next BW.out).c7;refine wLy ?_;go_simp;(try simp only []);refine wHk hK ((BX6.out.next BW.out).c4) ?_;clear hK K hH;intro hH;clear b0 b1 b2 b3 b4 b5 b6;refine wRd 6 (fun K hK=>?_);go_simp;go_at_call 105;refine (C3.out _ (HR6.out.1.next BW.out)).mono ?_;rintro e x0 ⟨rfl,hb⟩;(try simp only []);replace BW:=ze_ BW hb;clear hb;refine wHk hK ((BX6.out.next BW.out).c4) ?_;clear hK K hH;intro hH;refine wTk 7 ?_
    rotate_left
    focus
     refine wLy ?_;go_simp;go_at_call 105;refine (C3.out _ (HR6.out.1.next BW.out)).mono ?_;rintro e x0 ⟨rfl,hb⟩;(try simp only []);replace BW:=ze_ BW hb;clear hb;refine wHk hK ((BX6.out.next BW.out).c4) ?_;clear hK K hH;intro hH;refine wTk 7 ?_;refine wpAnyH_ready (rs:=[1]) (by kernel_rfl) (by simp) ?_;refine .cons rfl (fun K hK=>?_) .nil;obtain ⟨b0,b1,b2,b3,b4,b5,b6⟩:=(PB6.out.x.next BW.out).c7;refine wLy ?_;go_simp;(try simp only []);refine wHk hK ((BX6.out.next BW.out).c4) ?_;clear hK K hH;intro hH;clear b0 b1 b2 b3 b4 b5 b6
    rotate_left
    all_goals
     refine wRd 8 (fun K hK=>?_);go_simp;go_at_call 82;refine (CA.out _ (PB6.out.next BW.out).b).mono ?_;rintro e x1 ⟨p9,c9,rfl,hb,hO8⟩;(try simp only []);have HD:Hid (OwnT x1 (.slice p9 (o.un.length+1) c9) (o.un++[zq_ (recT true C)]) W6.heap.size):=hO8.weak BW.out.size;replace BW:=ze_ BW hb;clear hb hO8;refine wHk hK ((BX6.out.next BW.out).c4) ?_;clear hK K hH;intro hH;refine wTk 9 ?_;obtain ⟨b0,b1,b2,b3,b4,b5,b6⟩:=(PB6.out.x.next BW.out).c7;obtain ⟨f0,f1,f2,f3,f4,f5,f6⟩:=(PB6.out.x.next BW.out).f7
     have PB9:Hid (PB w ((x1.setCell ⟨w.heap.size,5,none⟩ (.slice o.p2 o.su.length o.c2)).setCell ⟨w.heap.size,6,none⟩ (.slice p9 (o.un.length+1) c9)) [.int .i64 o.x.id,.int .i64 (o.x.n+1),.int .i64 o.x.cut,.slice p' (setM ⟨C,vo,vc⟩ o.ms).length c',.slice pf (o.x.fd.length+1) cf,.slice o.p2 o.su.length o.c2,.slice p9 (o.un.length+1) c9] o.x.id o.x.n):=by
      have:=((PB6.out.next BW.out).at (i:=5) (u:=.slice o.p2 o.su.length o.c2) (by simp)).at (i:=6) (u:=.slice p9 (o.un.length+1) c9) (by simp)
      show PB _ _ _ _ _
      simpa using this
     have BX9:Hid (Box ((x1.setCell ⟨w.heap.size,5,none⟩ (.slice o.p2 o.su.length o.c2)).setCell ⟨w.heap.size,6,none⟩ (.slice p9 (o.un.length+1) c9)) g14 [.slice vo C.l.length vc,.int .i64 C.a,.int .i64 C.b,.int .i64 C.c]):=((BX6.out.next BW.out).oth (by omega)).oth (by omega);have HR9:Hid ((GRow (w.heap.size+5) ((x1.setCell ⟨w.heap.size,5,none⟩ (.slice o.p2 o.su.length o.c2)).setCell ⟨w.heap.size,6,none⟩ (.slice p9 (o.un.length+1) c9)) vo (flat C.l)∧GRow (w.heap.size+5) ((x1.setCell ⟨w.heap.size,5,none⟩ (.slice o.p2 o.su.length o.c2)).setCell ⟨w.heap.size,6,none⟩ (.slice p9 (o.un.length+1) c9)) p' (zp_ (setM ⟨C,vo,vc⟩ o.ms)))∧(GRow (w.heap.size+5) ((x1.setCell ⟨w.heap.size,5,none⟩ (.slice o.p2 o.su.length o.c2)).setCell ⟨w.heap.size,6,none⟩ (.slice p9 (o.un.length+1) c9)) pf (zl_ (o.x.fd++[⟨o.x.id,o.x.n+1,k⟩]))∧o.x.fd.length+1<=cf)):=⟨⟨((HR6.out.1.next BW.out).keep (zc_ (by omega))).keep (zc_ (by omega)),((HR6.out.2.next BW.out).keep (zc_ (by omega))).keep (zc_ (by omega))⟩,((HF6.out.1.next BW.out).keep (zc_ (by omega))).keep (zc_ (by omega)),HF6.out.2⟩
     have HU9:Hid (GRow (w.heap.size+5) ((x1.setCell ⟨w.heap.size,5,none⟩ (.slice o.p2 o.su.length o.c2)).setCell ⟨w.heap.size,6,none⟩ (.slice p9 (o.un.length+1) c9)) p9 (V (o.un++[zq_ (recT true C)]))∧(o.un++[zq_ (recT true C)]).length<=c9):=by
      obtain ⟨pp,cc,ee,hcc,hgg⟩:=yL_ HD.out
      have e9:pp=p9∧cc=c9:=by
       simp at ee;exact ⟨ee.1.symm,ee.2.symm⟩
      obtain ⟨rfl,rfl⟩:=e9;exact ⟨((hgg.weak (by have:=PB6.out.d.lt; omega)).keep (zc_ (by omega))).keep (zc_ (by omega)),hcc⟩
     refine wRd 10 (fun K hK=>?_);go_simp;(try simp only []);refine wHk hK (BX9.out.c4) ?_;clear hK K hH;intro hH;refine wDn ?_;clear hH b0 b1 b2 b3 b4 b5 b6 f0 f1 f2 f3 f4 f5 f6;go_wp2_with fail;go_meet
     case rel=>exact ⟨rfl,p9,c9,PB9.out,HR9.out,HU9.out⟩
   case rest=>
    obtain ⟨rfl,p9,c9,hP7,hR7,hU7⟩:=hcut;have PB7:Hid _:=hP7;have HR7:Hid _:=And.intro hR7 hU7;clear hP7 hR7 hU7 PB6 BX6 HR6 HF6 C3 CA;generalize wc=W7 at *;go_upto_region 14 with fail;have PB8:Hid (PB w W7 [.int .i64 o.x.id,.int .i64 (o.x.n+1),.int .i64 o.x.cut,.slice p' (setM ⟨C,vo,vc⟩ o.ms).length c',.slice pf (o.x.fd.length+1) cf,.slice o.p2 o.su.length o.c2,.slice p9 (o.un.length+1) c9] o.x.id o.x.n):=PB7.out;have HR8:Hid (((GRow (w.heap.size+5) W7 vo (flat C.l)∧GRow (w.heap.size+5) W7 p' (zp_ (setM ⟨C,vo,vc⟩ o.ms)))∧(GRow (w.heap.size+5) W7 pf (zl_ (o.x.fd++[⟨o.x.id,o.x.n+1,k⟩]))∧o.x.fd.length+1<=cf))∧(GRow (w.heap.size+5) W7 p9 (V (o.un++[zq_ (recT true C)]))∧(o.un++[zq_ (recT true C)]).length<=c9)):=HR7.out;obtain ⟨a0,a1,a2,a3,a4,a5,a6⟩:=PB8.out.r.c7;obtain ⟨f0,f1,f2,f3,f4,f5,f6⟩:=PB8.out.r.f7;obtain ⟨e0,e1⟩:=PB8.out.q.c2;obtain ⟨g0,g1⟩:=PB8.out.q.f2;obtain ⟨b0,b1,b2,b3,b4,b5,b6⟩:=PB8.out.x.c7;obtain ⟨d0,d1⟩:=PB8.out.d.c2;clear PB7 HR7
    go_region
    go_wp2;refine bodyPost_ret (v:=.tuple #[.agg #[.int .i64 o.x.id,.int .i64 (o.x.n+1),.int .i64 o.x.cut,.slice p' (setM ⟨C,vo,vc⟩ o.ms).length c',.slice pf (o.x.fd.length+1) cf,.slice o.p2 o.su.length o.c2,.slice p9 (o.un.length+1) c9],.agg #[.int .i64 o.x.id,.int .i64 (o.x.n+1)],.int .i64 0]) (by simp [results,Tryz.results49,go_sem,a0,a1,a2,a3,a4,a5,a6,f0,f1,f2,f3,f4,f5,f6,e0,e1,g0,g1]) rfl ?_;refine ⟨⟨nxt o.x (true,C),setM ⟨C,vo,vc⟩ o.ms,p',c',pf,cf,o.p2,o.c2,p9,c9,o.su,o.un++[zq_ (recT true C)]⟩,by simp [nxt],?_,rfl,rfl,rfl,?_,?_⟩
    ·refine uf_ h.out ?_ ?_ HVC.out ?_ HC5.out rfl ?_ ?_ ?_ HR8.out.2.2
     ·repeat (first | with_reducible refine zt_ ?_ (by omega) | with_reducible refine Below.drew ?_)
      with_reducible exact PB8.out.b
     ·refine GRow.weak (lo:=w.heap.size+5) ?_ (by have:=HLO.out; omega);refine GRow.next ?_ (zd_ _);refine GRow.keep ?_ (zc_ (by omega));refine GRow.keep ?_ (zc_ (by omega));refine GRow.keep ?_ (zc_ (by omega));refine GRow.keep ?_ (zc_ (by omega));refine GRow.keep ?_ (zc_ (by omega));refine GRow.keep ?_ (zc_ (by omega));refine GRow.keep ?_ (zc_ (by omega));refine GRow.keep ?_ (zc_ (by omega));refine GRow.keep ?_ (zc_ (by omega));exact HR8.out.1.1.1
     ·refine GRow.weak (lo:=w.heap.size+5) ?_ (by have:=HLO.out; omega);refine GRow.next ?_ (zd_ _);refine GRow.keep ?_ (zc_ (by omega));refine GRow.keep ?_ (zc_ (by omega));refine GRow.keep ?_ (zc_ (by omega));refine GRow.keep ?_ (zc_ (by omega));refine GRow.keep ?_ (zc_ (by omega));refine GRow.keep ?_ (zc_ (by omega));refine GRow.keep ?_ (zc_ (by omega));refine GRow.keep ?_ (zc_ (by omega));refine GRow.keep ?_ (zc_ (by omega));exact HR8.out.1.1.2
     ·refine GRow.weak (lo:=w.heap.size+5) ?_ (by have:=HLO.out; omega);refine GRow.next ?_ (zd_ _);refine GRow.keep ?_ (zc_ (by omega));refine GRow.keep ?_ (zc_ (by omega));refine GRow.keep ?_ (zc_ (by omega));refine GRow.keep ?_ (zc_ (by omega));refine GRow.keep ?_ (zc_ (by omega));refine GRow.keep ?_ (zc_ (by omega));refine GRow.keep ?_ (zc_ (by omega));refine GRow.keep ?_ (zc_ (by omega));refine GRow.keep ?_ (zc_ (by omega));rw [show (nxt o.x (true,C)).fd=o.x.fd++[⟨o.x.id,o.x.n+1,k⟩] by simp [nxt,HK.out]];exact HR8.out.1.2.1
     ·rw [show (nxt o.x (true,C)).fd=o.x.fd++[⟨o.x.id,o.x.n+1,k⟩] by simp [nxt,HK.out]];simp;exact HR8.out.1.2.2
     ·refine GRow.weak (lo:=w.heap.size+5) ?_ (by have:=HLO.out; omega);refine GRow.next ?_ (zd_ _);refine GRow.keep ?_ (zc_ (by omega));refine GRow.keep ?_ (zc_ (by omega));refine GRow.keep ?_ (zc_ (by omega));refine GRow.keep ?_ (zc_ (by omega));refine GRow.keep ?_ (zc_ (by omega));refine GRow.keep ?_ (zc_ (by omega));refine GRow.keep ?_ (zc_ (by omega));refine GRow.keep ?_ (zc_ (by omega));refine GRow.keep ?_ (zc_ (by omega));exact HR8.out.2.1
    ·intro b hb hx;refine qd_ (l0:=w.heap.size+5) (by omega) hx HR8.out.1.1.1 HR8.out.1.1.2 ?_ HR8.out.2.1;rw [show (nxt o.x (true,C)).fd=o.x.fd++[⟨o.x.id,o.x.n+1,k⟩] by simp [nxt,HK.out]];exact yO_ HR8.out.1.2.1 (by omega)
    ·repeat (first | with_reducible refine zt_ ?_ (by omega) | with_reducible refine Below.drew ?_)
     with_reducible exact PB8.out.b
end
section
variable {V':Int->Int->Int × Bool} {j:Nat} {rs:List (Bool × Cl)} {su un:List ByteArray}
theorem vE_:∀ (l:List Sib) (m:Int),Rise l->(∀ s ∈ l,0<=s.p∧s.p < 3∧1<=s.n∧s.n<=24)->(∀ s ∈ l,m<=24 * s.p+s.n)->m<=73->(l.length:Int)<=73 - m
 | [],m,_,_,_,hm=>by simp; omega
 | s :: l,m,hr,hb,hg,hm=>by
  have h1:=hb s (List.mem_cons_self ..);have h2:=hg s (List.mem_cons_self ..)
  have ih:=vE_ l (24 * s.p+s.n+1) hr.tail (fun t ht=>hb t (List.mem_cons_of_mem _ ht)) (fun t ht=>by
   have h3:=hr.head t ht;have h4:=hb t (List.mem_cons_of_mem _ ht);unfold Bef at h3
   rcases h3 with h3 | ⟨h3,h5⟩ <;> omega) (by omega)
  simp only [List.length_cons];omega
section
variable {V:Int->Int->Int × Bool} {k0 k1 k2:Int} {l l2:List Sib} {a b c x y z:Int}
theorem Rp.len24 (h:Rp V k0 k1 k2 l a b c) (h0:k0<=24) (h1:k1<=24) (h2:k2<=24):l.length<=72:=by
 have:=vE_ l 1 h.rise (fun s hs=>by
  have e:=uM_ (h.ok s hs).1;have f:=(h.ok s hs).2;have g:=qO_ (p:=s.p) h.le h0 h1 h2;omega) (fun s hs=>by
  have e:=uM_ (h.ok s hs).1
  omega) (by omega)
 omega
theorem Rp.okP24 (h:Rp V k0 k1 k2 l a b c) (h0:k0<=24) (h1:k1<=24) (h2:k2<=24):OkP l a b c:=by
 have hl:=h.len24 h0 h1 h2;have h3:=h.pos;have h4:=h.le;refine ⟨by omega,decide_eq_true (by omega),fun i hi=>⟨(h.ok _ (List.getElem_mem hi)).1,decide_eq_true (h.ok _ (List.getElem_mem hi)).2,fun hi0=>wT_.2 ?_⟩⟩;exact List.pairwise_iff_getElem.1 h.rise (i - 1) i (by omega) hi (by omega)
theorem pq_ (h0:0<=k0) (h1:0<=k1) (h2:0<=k2):Rp V k0 k1 k2 [] 0 0 0:=⟨by simp [Rise],by simp,by omega,by omega,by simp⟩
end
theorem vY_ (m:Nat->Int) (i:Nat) (hi:i < 3):comp (m 0) (m 1) (m 2) (i:Int)=m i:=by
 have:i=0∨i=1∨i=2:=by omega
 rcases this with rfl | rfl | rfl <;> simp [comp]
def RpC (V:Int->Int->Int × Bool) (m:Nat->Int) (c:Cl):Prop:=Rp V (m 0) (m 1) (m 2) c.l c.a c.b c.c
structure zS_ (V:Int->Int->Int × Bool) (m:Nat->Int) (j:Nat) (x:Nd) (su un:List ByteArray) (rs:List (Bool × Cl)):Prop where
 made:x=mkN j rs
 good:Gds j rs
 disk:su++un=rs.map (fun r=>zq_ (recT r.1 r.2))
 n:x.n=m j
 cells:∀ c ∈ x.cs,RpC V m c∧keyP c.k
theorem zS_.id {V:Int->Int->Int × Bool} {m:Nat->Int} {x:Nd} (h:zS_ V m j x su un rs):x.id=j:=by rw [h.made]; exact (sE_ _ _).1
theorem zS_.up {V:Int->Int->Int × Bool} {m:Nat->Int} {x:Nd} (h:zS_ V m j x su un rs):Up x.cs:=by rw [h.made]; exact Gds.up
theorem ul_ (id:Int) (rs:List (Bool × Cl)):(mkN id rs).cs.length<=rs.length∧(mkN id rs).fd.length<=rs.length:=by
 rcases List.eq_nil_or_concat rs with rfl | ⟨rs',r,rfl⟩
 ·simp [mkN,newN]
 ·rw [List.concat_eq_append,xS_];have h1:=ul_ id rs';have h2:=wQ_ (mkN id rs').cs r.2;refine ⟨?_,?_⟩
  ·show (setC r.2 (mkN id rs').cs).length<=_
   simp; omega
  ·show (if r.1 then (mkN id rs').fd++_ else (mkN id rs').fd).length<=_
   split <;> simp <;> omega
termination_by rs.length
theorem zS_.len {V:Int->Int->Int × Bool} {m:Nat->Int} {x:Nd} (h:zS_ V m j x su un rs):x.cs.length<=rs.length∧x.fd.length<=rs.length∧su.length+un.length=rs.length:=by
 have h1:=ul_ (j:Int) rs;rw [<- h.made] at h1;refine ⟨h1.1,h1.2,?_⟩
 have:=congrArg List.length h.disk
 simpa using this
theorem zS_.had {V:Int->Int->Int × Bool} {m:Nat->Int} {x:Nd} (h:zS_ V m j x su un rs) (hm:∀ i,i < 3->0<=m i) (k:ByteArray):RpC V m (atC k x.cs):=by
 rcases o9_ (k:=k) (cs:=x.cs) with h' | h'
 ·exact (h.cells _ h').1
 ·rw [h'];exact pq_ (hm 0 (by omega)) (hm 1 (by omega)) (hm 2 (by omega))
theorem wv_ {h c:Cl} (e:h.l=c.l∧h.a=c.a∧h.b=c.b∧h.c=c.c):xj_ h c:=by
 obtain ⟨k1,l1,a1,b1,c1⟩:=h;obtain ⟨k2,l2,a2,b2,c2⟩:=c;obtain ⟨rfl,rfl,rfl,rfl⟩:=e;refine ⟨by simp,rfl,fun i hi hi2=>?_⟩;show sibB l1[i] l1[i]=true
 simp [sibB]
theorem zS_.fol_join {V:Int->Int->Int × Bool} {m:Nat->Int} {x:Nd} (h:zS_ V m j x su un rs) (hj:j < 3) (hm:∀ i,i < 3->0<=m i∧m i<=24) (hl:rs.length<=24) {c:Cl} (hk:keyP c.k) (hc:RpC V m c) (hne:¬ xj_ (atC c.k x.cs) (jnC (atC c.k x.cs) c)):Fol x (false,jnC (atC c.k x.cs) c):=by
 have H:=h.had (fun i hi=>(hm i hi).1) c.k;have m0:=hm 0 (by omega);have m1:=hm 1 (by omega);have m2:=hm 2 (by omega);have mj:=hm j hj;have J:RpC V m (jnC (atC c.k x.cs) c):=Rp.join H hc;refine ⟨hk,J.okP24 m0.2 m1.2 m2.2,?_,?_,?_,?_,?_,?_,?_,?_,?_⟩
 ·exact H.okP24 m0.2 m1.2 m2.2
 ·exact Rp.again0 H hc
 ·exact (Rp.comm H J).trans (Rp.again0 H hc)
 ·exact ⟨Int.le_max_left _ _,Int.le_max_left _ _,Int.le_max_left _ _⟩
 ·exact fun e=>hne (wv_ e)
 ·have:=h.len; omega
 ·rw [h.n]; omega
 ·intro e; cases e
 ·intro _;rw [h.n,h.id,<- vY_ m j hj];exact z2_ J.le
theorem zS_.more {V:Int->Int->Int × Bool} {m m':Nat->Int} {x:Nd} (h:zS_ V m j x su un rs) (hk:∀ i,i < 3->m i<=m' i) (hV:∀ p n,n<=comp (m 0) (m 1) (m 2) p->V' p n=V p n) (hj:m' j=m j):zS_ V' m' j x su un rs:=
 ⟨h.made,h.good,h.disk,by rw [hj]; exact h.n,fun c hc=>⟨Rp.more (h.cells c hc).1 ⟨hk 0 (by omega),hk 1 (by omega),hk 2 (by omega)⟩ hV,(h.cells c hc).2⟩⟩
theorem zS_.sync {V:Int->Int->Int × Bool} {m:Nat->Int} {x:Nd} (h:zS_ V m j x su un rs):zS_ V m j x (su++un) [] rs:=⟨h.made,h.good,by simpa using h.disk,h.n,h.cells⟩
theorem zS_.join {V:Int->Int->Int × Bool} {m:Nat->Int} {x:Nd} (h:zS_ V m j x su un rs) (hm:∀ i,i < 3->0<=m i) {c:Cl} (hk:keyP c.k) (hc:RpC V m c) (hf:Fol x (false,jnC (atC c.k x.cs) c)) :
  zS_ V m j (nxt x (false,jnC (atC c.k x.cs) c)) su (un++[zq_ (recT false (jnC (atC c.k x.cs) c))]) (rs++[(false,jnC (atC c.k x.cs) c)]):=by
 refine ⟨?_,h.good.snoc (by rw [<- h.made]; exact hf),?_,h.n,fun y hy=>?_⟩
 ·rw [xS_,<- h.made]
 ·rw [<- List.append_assoc,h.disk];simp
 ·rcases xT_ hy with rfl | hy
  ·exact ⟨Rp.join (h.had hm c.k) hc,hk⟩
  ·exact h.cells y hy
def updm (m:Nat->Int) (i:Nat) (x:Int):Nat->Int:=fun j=>if j=i then x else m j
def updV (V:Int->Int->Int × Bool) (p n v:Int) (d:Bool):Int->Int->Int × Bool:=fun q k=>if q=p∧k=n then (v,d) else V q k
section
variable {V:Int->Int->Int × Bool} {m:Nat->Int} {j:Nat} {x:Nd} {su un:List ByteArray} {rs:List (Bool × Cl)} {X Y Z v:Int} {d:Bool}
theorem v0_ (m:Nat->Int) (j:Nat):∀ i,i < 3->m i<=updm m j (m j+1) i:=fun i _=>by unfold updm; split; (rename_i e; rw [e]; omega); exact Int.le_refl _
theorem wa_ (hj:j < 3):∀ p n,n<=comp (m 0) (m 1) (m 2) p->updV V j (m j+1) v d p n=V p n:=fun p n hn=>by
 unfold updV;refine if_neg fun ⟨e1,e2⟩=>?_
 rw [e1,vY_ m j hj] at hn;omega
theorem zS_.wr (h:zS_ V m j x su un rs) (hj:j < 3) (hm:∀ i,i < 3->0<=m i∧m i<=23) (k:ByteArray) (hX:X<=(atC k x.cs).a∧Y<=(atC k x.cs).b∧Z<=(atC k x.cs).c) (hv:0<=v∧v<=999) (hd:d=true->v=0) :
  RpC (updV V j (m j+1) v d) (updm m j (m j+1)) (wrC x (atC k x.cs) X Y Z v d) ∧
  (sj (wrC x (atC k x.cs) X Y Z v d).a (wrC x (atC k x.cs) X Y Z v d).b (wrC x (atC k x.cs) X Y Z v d).c (atC k x.cs).a (atC k x.cs).b (atC k x.cs).c (wrC x (atC k x.cs) X Y Z v d).l (atC k x.cs).l=(wrC x (atC k x.cs) X Y Z v d).l) ∧
  ((atC k x.cs).a<=(wrC x (atC k x.cs) X Y Z v d).a∧(atC k x.cs).b<=(wrC x (atC k x.cs) X Y Z v d).b∧(atC k x.cs).c<=(wrC x (atC k x.cs) X Y Z v d).c) ∧
  comp (max (atC k x.cs).a X) (max (atC k x.cs).b Y) (max (atC k x.cs).c Z) x.id < x.n+1∧comp X Y Z x.id < x.n+1:=by
 have H:Rp V (m 0) (m 1) (m 2) _ _ _ _:=h.had (fun i hi=>(hm i hi).1) k;obtain ⟨C,hC⟩:∃ C,C=atC k x.cs:=⟨_,rfl⟩;rw [<- hC] at H hX ⊢;have hn:=h.n;have hid:=h.id;have hle:=H.le;have hpos:=H.pos;have mj:=hm j hj;have hup:=v0_ m j;have h3:j=0∨j=1∨j=2:=by omega
 have hs:zW_ (x.id) (x.n+1) v d=true:=by
  have:dotB x.id (x.n+1)=true:=decide_eq_true (by rw [hid,hn]; rcases h3 with rfl | rfl | rfl <;> omega)
  unfold zW_;simp only [this,Bool.true_and];cases d with
  | false=>simp; omega
  | true=>simp [hd rfl]
 have hnw:comp (m 0) (m 1) (m 2) x.id < x.n+1:=by rw [hid,vY_ m j hj,hn]; omega
 have hval:(v,d)=updV V j (m j+1) v d x.id (x.n+1):=by
  unfold updV;rw [if_pos ⟨hid,by rw [hn]⟩]
 have hP:C.a<=(wrC x C X Y Z v d).a∧C.b<=(wrC x C X Y Z v d).b∧C.c<=(wrC x C X Y Z v d).c:=by
  unfold wrC;simp only [hid,hn];rcases h3 with rfl | rfl | rfl <;> simp <;> omega
 have hX2:X<=(wrC x C X Y Z v d).a∧Y<=(wrC x C X Y Z v d).b∧Z<=(wrC x C X Y Z v d).c:=by omega
 have hQ:(wrC x C X Y Z v d).a<=updm m j (m j+1) 0∧(wrC x C X Y Z v d).b<=updm m j (m j+1) 1∧(wrC x C X Y Z v d).c<=updm m j (m j+1) 2:=by
  unfold wrC updm;simp only [hid,hn];rcases h3 with rfl | rfl | rfl <;> simp <;> omega
 have hR:x.n+1<=comp (wrC x C X Y Z v d).a (wrC x C X Y Z v d).b (wrC x C X Y Z v d).c x.id:=by
  unfold wrC comp;simp only [hid,hn];rcases h3 with rfl | rfl | rfl <;> simp
 have hk:m 0<=updm m j (m j+1) 0∧m 1<=updm m j (m j+1) 1∧m 2<=updm m j (m j+1) 2:=⟨hup 0 (by omega),hup 1 (by omega),hup 2 (by omega)⟩;refine ⟨?_,?_,hP,?_,?_⟩
 ·exact Rp.write (s:=⟨x.id,x.n+1,v,d⟩) (x:=X) (y:=Y) (z:=Z) H hk (wa_ hj) hs hnw hval hP hQ hR
 ·exact (Rp.write_covers (s:=⟨x.id,x.n+1,v,d⟩) (x:=X) (y:=Y) (z:=Z) H hk (wa_ hj) hs hnw hval hP hX2 hQ hR).1
 ·have:comp (max C.a X) (max C.b Y) (max C.c Z) x.id<=comp (m 0) (m 1) (m 2) x.id:=z2_ (by omega)
  omega
 ·have:comp X Y Z x.id<=comp (m 0) (m 1) (m 2) x.id:=z2_ (by omega)
  omega
theorem zS_.fol_put (h:zS_ V m j x su un rs) (hj:j < 3) (hm:∀ i,i < 3->0<=m i∧m i<=23) (hl:rs.length<=24) (k:ByteArray) (hk:keyP k) (hX:X<=(atC k x.cs).a∧Y<=(atC k x.cs).b∧Z<=(atC k x.cs).c) (hv:0<=v∧v<=999) (hd:d=true->v=0):Fol x (true,wrC x (atC k x.cs) X Y Z v d):=by
 obtain ⟨w1,w2,w3,w4,w5⟩:=h.wr hj hm k hX hv hd;have H:Rp V (m 0) (m 1) (m 2) _ _ _ _:=h.had (fun i hi=>(hm i hi).1) k;have hup:=v0_ m j;have m0:=hm 0 (by omega);have m1:=hm 1 (by omega);have m2:=hm 2 (by omega);have mj:=hm j hj;have hu:∀ i,i < 3->updm m j (m j+1) i<=24:=fun i hi=>by unfold updm; have:=hm i hi; split <;> omega
 have hkk:(wrC x (atC k x.cs) X Y Z v d).k=k:=q1_ _ _;have hkm:m 0<=updm m j (m j+1) 0∧m 1<=updm m j (m j+1) 1∧m 2<=updm m j (m j+1) 2:=⟨hup 0 (by omega),hup 1 (by omega),hup 2 (by omega)⟩;have H':=H.more hkm (wa_ (v:=v) (d:=d) hj);have hid:=h.id;have hn:=h.n;have h3:j=0∨j=1∨j=2:=by omega
 refine ⟨by show keyP (wrC x (atC k x.cs) X Y Z v d).k; rw [hkk]; exact hk,w1.okP24 (hu 0 (by omega)) (hu 1 (by omega)) (hu 2 (by omega)),?_,?_,?_,?_,?_,?_,?_,?_,?_⟩
 ·show OkP (atC (wrC x (atC k x.cs) X Y Z v d).k x.cs).l _ _ _
  rw [hkk];exact H.okP24 (by omega) (by omega) (by omega)
 ·show sj _ _ _ (atC (wrC x (atC k x.cs) X Y Z v d).k x.cs).a _ _ _ _=_
  rw [hkk];exact w2
 ·show sj (atC (wrC x (atC k x.cs) X Y Z v d).k x.cs).a _ _ _ _ _ _ _=_
  rw [hkk];show sj _ _ _ _ _ _ (atC k x.cs).l (wrC x (atC k x.cs) X Y Z v d).l=_
  rw [Rp.comm H' w1];exact w2
 ·show (atC (wrC x (atC k x.cs) X Y Z v d).k x.cs).a<=_∧_
  rw [hkk];exact w3
 ·show ¬ ((atC (wrC x (atC k x.cs) X Y Z v d).k x.cs).l=_∧_)
  rw [hkk];intro e;exact tw_ (s:=⟨x.id,x.n+1,v,d⟩) (x:=X) (y:=Y) (z:=Z) H (by show comp _ _ _ x.id < x.n+1; rw [hid,vY_ m j hj,hn]; omega) e.1.symm
 ·have:=h.len; omega
 ·rw [hn]; omega
 ·intro _;refine ⟨⟨⟨x.id,x.n+1,v,d⟩,rz_,rfl,rfl⟩,?_⟩;unfold wrC comp;simp only [hid];rcases h3 with rfl | rfl | rfl <;> simp
 ·intro e; cases e
theorem zS_.put (h:zS_ V m j x su un rs) (hj:j < 3) (hm:∀ i,i < 3->0<=m i∧m i<=23) (hl:rs.length<=24) (k:ByteArray) (hk:keyP k) (hX:X<=(atC k x.cs).a∧Y<=(atC k x.cs).b∧Z<=(atC k x.cs).c) (hv:0<=v∧v<=999) (hd:d=true->v=0) :
  zS_ (updV V j (m j+1) v d) (updm m j (m j+1)) j (nxt x (true,wrC x (atC k x.cs) X Y Z v d)) su (un++[zq_ (recT true (wrC x (atC k x.cs) X Y Z v d))]) (rs++[(true,wrC x (atC k x.cs) X Y Z v d)]):=by
 have hf:=h.fol_put hj hm hl k hk hX hv hd;obtain ⟨w1,w2,w3,w4,w5⟩:=h.wr hj hm k hX hv hd;have hup:=v0_ m j;refine ⟨?_,h.good.snoc (by rw [<- h.made]; exact hf),?_,?_,fun y hy=>?_⟩
 ·rw [xS_,<- h.made]
 ·rw [<- List.append_assoc,h.disk];simp
 ·show x.n+1=updm m j (m j+1) j
  unfold updm;rw [if_pos rfl,h.n]
 ·rcases xT_ hy with rfl | hy
  ·exact ⟨w1,hf.key⟩
  ·exact ⟨Rp.more (h.cells y hy).1 ⟨hup 0 (by omega),hup 1 (by omega),hup 2 (by omega)⟩ (wa_ hj),(h.cells y hy).2⟩
end
end
section
variable {W:World} {hi lo:Nat} {ru:List ByteArray} {v0 v1:Value}
theorem w6_ {rs:List ByteArray} (h:Own2 W v0 v1 rs ru lo hi):OwnT W v0 rs lo∧OwnT W v1 ru lo:=⟨⟨h.r0,fun k hk=>(h.b0 k hk).1⟩,⟨h.r1,fun k hk=>(h.b1 k hk).1⟩⟩
theorem rF_ (lo:Nat) (o:No) (w:World) (hlo:lo<=w.heap.size) (hs:o.su.length+o.un.length<=100000) (h0:NoR lo w o) :
  Calls Tryz.prog 127 #[nV o] w fun e w'=>∃ u:No,e=.returned (nV u)∧NoR lo w' u∧u.x=o.x∧u.su=o.su++o.un∧u.un=[]∧Below w.heap.size w w':=by
 (try unfold nV);have h:Hid (NoR lo w o):=h0;have HLO:=hm_ hlo;clear h0 hlo;have B0:Hid (Below w.heap.size w ((w.alloc (.cells (nL o).toArray 29)).alloc (.cells nZ.toArray 29))):=(zb_ _ _).trans ((zb_ _ _).mono (by simp));have X0:Hid (Box ((w.alloc (.cells (nL o).toArray 29)).alloc (.cells nZ.toArray 29)) w.heap.size (nL o)∧Box ((w.alloc (.cells (nL o).toArray 29)).alloc (.cells nZ.toArray 29)) (w.heap.size+1) nZ):=⟨zn_.alloc,by have:=zn_ (W:=w.alloc (.cells (nL o).toArray 29)) (t:=29) (vs:=nZ); simpa using this⟩;have CS:Hid (∀ W,NoR lo W o->Calls Tryz.prog 120 #[.agg #[.slice o.p2 o.su.length o.c2,.slice o.p3 o.un.length o.c3]] W _):=fun W hW=>x5_ (.slice o.p2 o.su.length o.c2) (.slice o.p3 o.un.length o.c3) o.su o.un W (by omega) (by omega) hW.row.1 hW.row.2
 go_enter Tryz.func127,Tryz.ntmps127;go_upto_region 2 with (first | (generalize hW0:((w.alloc (.cells (nL o).toArray 29)).alloc (.cells nZ.toArray 29))=W0 at *; go_at_call 120; refine (CS.out _ (h.out.next B0.out)).mono ?_; rintro e w1 ⟨p0,c0,p1,c1,rfl,hb1,hO1⟩; obtain ⟨b0,b1,b2,b3,b4,b5,b6⟩:=(X0.out.1.next hb1).c7; obtain ⟨f0,f1,f2,f3,f4,f5,f6⟩:=(X0.out.1.next hb1).f7));obtain ⟨a0,a1,a2,a3,a4,a5,a6⟩:=(X0.out.2.next hb1).c7;obtain ⟨g0,g1,g2,g3,g4,g5,g6⟩:=(X0.out.2.next hb1).f7
 have HO:Hid (OwnT w1 (.slice p0 (o.su.length+o.un.length) c0) (o.su++o.un) (w.heap.size+2)∧OwnT w1 (.slice p1 0 c1) [] (w.heap.size+2)):=by
  have e:=w6_ hO1;have hz:=X0.out.2.lt;exact ⟨⟨by simpa using e.1.own,fun k hk=>by have:=e.1.ge k hk; omega⟩,⟨e.2.own,fun k hk=>by have:=e.2.ge k hk; omega⟩⟩
 have HB:Hid (Below w.heap.size w w1):=B0.out.trans (hb1.mono B0.out.size);clear hO1 hb1 X0 B0 CS hW0;go_wp2;refine bodyPost_ret (v:=.agg #[.int .i64 o.x.id,.int .i64 o.x.n,.int .i64 o.x.cut,.slice o.p0 o.ms.length o.c0,.slice o.p1 o.x.fd.length o.c1,.slice p0 (o.su.length+o.un.length) c0,.slice p1 0 c1]) (by simp [results,Tryz.results127,go_sem, *]) rfl ?_;obtain ⟨q0,d0,e0,hc0,hg0⟩:=yL_ HO.out.1;obtain ⟨q1,d1,e1,hc1,hg1⟩:=yL_ HO.out.2;have E0:q0=p0∧d0=c0:=by simp at e0; exact ⟨e0.1.symm,e0.2.symm⟩
 have E1:q1=p1∧d1=c1:=by simp at e1; exact ⟨e1.1.symm,e1.2.symm⟩
 obtain ⟨rfl,rfl⟩:=E0;obtain ⟨rfl,rfl⟩:=E1;have HBF:Below w.heap.size w w1:=HB.out;refine ⟨⟨o.x,o.ms,o.p0,o.c0,o.p1,o.c1,q0,d0,q1,d1,o.su++o.un,[]⟩,by simp,?_,rfl,rfl,rfl,?_⟩
 ·refine ⟨h.out.cs,(h.out.next ?_).r0,(h.out.next ?_).r1,?_,.inl rfl,(h.out.next ?_).rs,h.out.le.1,h.out.le.2.1,hc0,Nat.zero_le _⟩
  ·repeat (refine zt_ ?_ (by omega))
   exact HBF
  ·repeat (refine zt_ ?_ (by omega))
   exact HBF
  ·refine GRow.weak (lo:=w.heap.size+2) ?_ (by have:=HLO.out; omega)
   repeat (refine GRow.keep ?_ (zc_ (by omega)))
   exact hg0
  ·repeat (refine zt_ ?_ (by omega))
   exact HBF
 ·repeat (refine zt_ ?_ (by omega))
  exact HBF
def xO_ (i:Nat):ByteArray:=if i=0 then ⟨#[97]⟩ else if i=1 then ⟨#[98]⟩ else if i=2 then ⟨#[99]⟩ else if i=3 then ⟨#[100,100]⟩ else ⟨#[107,101,121]⟩
theorem tp_ (i:Nat):keyP (xO_ i)∧(xO_ i).size<=6:=by
 have hp:∀ l:List UInt8,l.length<=6->1<=l.length->(∀ c ∈ l,97<=c.toNat∧c.toNat<=122)->keyP ⟨l.toArray⟩∧(⟨l.toArray⟩:ByteArray).size<=6:=fun l h1 h2 h3=>by
  have hs:=wZ_ l;refine ⟨⟨by omega,by omega,fun j hj _=>?_⟩,by omega⟩
  exact h3 _ (by
   have:(⟨l.toArray⟩:ByteArray)[j]=l[j]'(by omega):=by simp [ByteArray.getElem_eq_getElem_data]
   rw [this]
   exact List.getElem_mem _)
 unfold xO_;split
 ·exact hp [97] (by decide) (by decide) (by decide)
 ·split
  ·exact hp [98] (by decide) (by decide) (by decide)
  ·split
   ·exact hp [99] (by decide) (by decide) (by decide)
   ·split
    ·exact hp [100,100] (by decide) (by decide) (by decide)
    ·exact hp [107,101,121] (by decide) (by decide) (by decide)
end
section
variable {V':Int->Int->Int × Bool} {W W':World} {j lo lo' n off q:Nat} {o:No}
theorem pu_ (g len cap:Nat) (ao:Option Addr) (zs:List Int) (k s:Int) (b:Nat) (w:World) (h:yr_ w g ao len cap k s) (hr:Gen.IsRow .u8 w ao len cap zs) (hn:∀ x,ao=some x->0 < cap->x.block≠g) (hl:(len:Int)<=1048576) (hk0:0<=k) (hk:k<=1000000000) (hb:∀ i,i < 5->w.cell? ⟨b,i,none⟩=some (.string (xO_ i))) (hbg:b≠g) :
  Calls Tryz.prog 84 #[.pointer (some ⟨g,0,none⟩),.slice (some ⟨b,0,none⟩) 5 5] w fun e w'=>∃ (i:Nat) (t:Int),e=.returned (.string (xO_ i))∧yr_ w' g ao len cap (k+1) t∧w.grownBy w' (some g):=by
 have CN:Hid _:=uk_ g len cap ao zs k s 5 (by omega) (by omega) w h hr hn hl hk0 hk;have HB:=hm_ hb;clear h hr hn hb;go_enter Tryz.func84,Tryz.ntmps84;go_wp2_with fail;refine Calls.mono CN.out ?_;rintro e w1 ⟨n,t,hn0,rfl,hS0,hG0⟩;have hS:=hm_ hS0;have hG:=hm_ hG0;have hx:w1.cell? ⟨b,n.toNat,none⟩=some (.string (xO_ n.toNat)):=zm_ hG0 (HB.out n.toNat (by omega)) hbg;obtain ⟨h0,h5⟩:=hn0;obtain ⟨kk,hkk⟩:∃ kk,kk=xO_ n.toNat:=⟨_,rfl⟩;rw [<- hkk] at hx;have HKK:=hm_ hkk;clear hS0 hG0 CN HB hkk;go_wp2;go_ret;exact ⟨n.toNat,t,by rw [<- HKK.out]; first | rfl | simp,hS.out,by first | exact hG.out | (refine yK_ hG.out (yN_ _ none _) (by simp))⟩
theorem qI_:∀ i,i < 5->(#[.string ⟨#[97]⟩,.string ⟨#[98]⟩,.string ⟨#[99]⟩,.string ⟨#[100,100]⟩,.string ⟨#[107,101,121]⟩]:Array Value)[i]? = some (.string (xO_ i)):=fun i hi=>by
 have:i=0∨i=1∨i=2∨i=3∨i=4:=by omega
 rcases this with rfl | rfl | rfl | rfl | rfl <;> rfl
theorem qw_ (g len cap:Nat) (ao:Option Addr) (zs:List Int) (k s:Int) (w:World) (h:yr_ w g ao len cap k s) (hr:Gen.IsRow .u8 w ao len cap zs) (hn:∀ x,ao=some x->0 < cap->x.block≠g) (hl:(len:Int)<=1048576) (hk0:0<=k) (hk:k<=1000000000) :
  Calls Tryz.prog 36 #[.pointer (some ⟨g,0,none⟩)] w fun e w'=>∃ (i:Nat) (t:Int),e=.returned (.string (xO_ i))∧yr_ w' g ao len cap (k+1) t∧w.grownBy w' (some g):=by
 have hg:=h.2.2.2.2.2.1;have CP:Hid _:=pu_ g len cap ao zs k s w.heap.size (w.alloc (.cells #[.string ⟨#[97]⟩,.string ⟨#[98]⟩,.string ⟨#[99]⟩,.string ⟨#[100,100]⟩,.string ⟨#[107,101,121]⟩] 9)) h.alloc (ym_ hr (zb_ _ _)) hn hl hk0 hk (fun i hi=>by rw [World.cell?_alloc_at _ _ _ _ rfl]; exact qI_ i hi) (by omega);clear h hr hn;go_enter Tryz.func36,Tryz.ntmps36;go_wp2_with fail;refine Calls.mono CP.out ?_;rintro e w1 ⟨i,t,rfl,hS0,hG0⟩;have hS:=hm_ hS0;have hA:w.grownBy (w.alloc (.cells #[.string ⟨#[97]⟩,.string ⟨#[98]⟩,.string ⟨#[99]⟩,.string ⟨#[100,100]⟩,.string ⟨#[107,101,121]⟩] 9)) (some g):=⟨rfl,rfl,rfl,by simp,fun b hb _=>Below.heap_alloc _ _ b hb⟩;have hG:Hid (w.grownBy w1 (some g)):=yK_ hA hG0 (fun j hj=>.inr hj);clear hA;obtain ⟨kk,hkk⟩:∃ kk,kk=xO_ i:=⟨_,rfl⟩;rw [<- hkk];have HKK:Hid (kk=xO_ i):=hkk;clear hS0 hG0 CP hkk;go_wp2;go_ret;exact ⟨i,t,by rw [<- HKK.out]; first | rfl | simp,hS.out,hG.out⟩
def NdAt (W:World) (q off:Nat) (o:No):Prop:=W.cell? ⟨q,off,none⟩=some (.int .i64 o.x.id)∧W.cell? ⟨q,off+1,none⟩=some (.int .i64 o.x.n)∧W.cell? ⟨q,off+2,none⟩=some (.int .i64 o.x.cut)∧W.cell? ⟨q,off+3,none⟩=some (.slice o.p0 o.ms.length o.c0)∧W.cell? ⟨q,off+4,none⟩=some (.slice o.p1 o.x.fd.length o.c1)∧W.cell? ⟨q,off+5,none⟩=some (.slice o.p2 o.su.length o.c2)∧W.cell? ⟨q,off+6,none⟩=some (.slice o.p3 o.un.length o.c3)
theorem NdAt.keep (h:NdAt W q off o) (hk:Kept lo W W') (hl:lo<=q):NdAt W' q off o:=⟨hk.cell hl h.1,hk.cell hl h.2.1,hk.cell hl h.2.2.1,hk.cell hl h.2.2.2.1,hk.cell hl h.2.2.2.2.1,hk.cell hl h.2.2.2.2.2.1,hk.cell hl h.2.2.2.2.2.2⟩
structure QN (w W:World) (g q:Nat) (ao:Option Addr) (len cap:Nat) (zs:List Int) (k:Int) (V:Int->Int->Int × Bool) (m:Nat->Int) (o:Nat->No) (rs:Nat->List (Bool × Cl)):Prop where
 src:∃ s,yr_ W g ao len cap k s
 row:Gen.IsRow .u8 W ao len cap zs
 nd:∀ j,j < 3->NdAt W q (j * 7) (o j)
 th:zQ_ W q 21
 nor:∀ j,j < 3->NoR (q+1) W (o j)
 inv:∀ j,j < 3->zS_ V m j (o j).x (o j).su (o j).un (rs j)
 lt:g < q∧q < W.heap.size∧w.heap.size<=q
 grown:w.grownBy W (some g)
section
variable {w W W':World} {g q:Nat} {ao:Option Addr} {len cap:Nat} {zs:List Int} {k k':Int} {V:Int->Int->Int × Bool} {m:Nat->Int} {o:Nat->No} {rs:Nat->List (Bool × Cl)}
theorem zQ_.grown2 (h:zQ_ W q n) (hG:W.grownBy W' (some g)) (hq:q < W.heap.size) (hne:q≠g):zQ_ W' q n:=fun j hj=>by
 obtain ⟨v,hv⟩:=isx (h j hj).1;exact ⟨by rw [zm_ hG hv hne]; rfl,xN_ hG (h j hj).2 hq hne⟩
theorem QN.by (h:QN w W g q ao len cap zs k V m o rs) (hS:∃ s,yr_ W' g ao len cap k' s) (hR:Gen.IsRow .u8 W' ao len cap zs) (hG:W.grownBy W' (some g)):QN w W' g q ao len cap zs k' V m o rs:=
 ⟨hS,hR,fun j hj=>(h.nd j hj).keep (lo:=q) (xf_ hG h.lt.1) (Nat.le_refl _),h.th.grown2 hG h.lt.2.1 (by have:=h.lt.1; omega),fun j hj=>(h.nor j hj).keep (xf_ hG (by have:=h.lt.1; omega)),h.inv,⟨h.lt.1,Nat.lt_of_lt_of_le h.lt.2.1 hG.size,h.lt.2.2⟩,yK_ h.grown hG (fun j hj=>.inr hj)⟩
theorem QN.below (h:QN w W g q ao len cap zs k V m o rs) (hb:Below W.heap.size W W'):QN w W' g q ao len cap zs k V m o rs:=by
 obtain ⟨s,hs⟩:=h.src;exact ⟨⟨s,hs.below hb⟩,ym_ h.row hb,fun j hj=>(h.nd j hj).keep (lo:=q) (zT_ hb) (Nat.le_refl _),h.th.next hb h.lt.2.1,fun j hj=>(h.nor j hj).next hb,h.inv,⟨h.lt.1,Nat.lt_of_lt_of_le h.lt.2.1 hb.size,h.lt.2.2⟩,yK_ h.grown ⟨hb.os,hb.tape,hb.output,hb.size,fun b h' _=>hb.block b h'⟩ (row':=none) (by simp)⟩
def updo (o:Nat->No) (j:Nat) (u:No):Nat->No:=fun i=>if i=j then u else o i
def updr (rs:Nat->List (Bool × Cl)) (j:Nat) (l:List (Bool × Cl)):Nat->List (Bool × Cl):=fun i=>if i=j then l else rs i
theorem xD_ (o:Nat->No) (j:Nat) (u:No):updo o j u j=u:=if_pos rfl
theorem y4_ (o:Nat->No) {j i:Nat} (u:No) (h:i≠j):updo o j u i=o i:=if_neg h
theorem ug_ {u:No} {id:Int} (h:NoR lo W u) (hx:u.x=newN id) (hs:u.su=[]) (hu:u.un=[]):NoR lo' W' u:=by
 have hc:u.ms=[]:=by
  have:=h.cs
  rw [hx] at this;exact List.map_eq_nil_iff.1 this.symm
 refine ⟨h.cs,?_,?_,?_,?_,fun m hm=>?_,h.le⟩
 ·rw [hc]; exact .inl rfl
 ·rw [hx]; exact .inl rfl
 ·rw [hs]; exact .inl rfl
 ·rw [hu]; exact .inl rfl
 ·rw [hc] at hm; cases hm
theorem QN.store {m':Nat->Int} {rs':Nat->List (Bool × Cl)} {u:No} (h:QN w W g q ao len cap zs k V m o rs) (hj:j < 3) (hold:∀ x,ao=some x->0 < cap->x.block < w.heap.size) (hu:NoR (q+1) W u) (hi:∀ i,i < 3->zS_ V' m' i (updo o j u i).x (updo o j u i).su (updo o j u i).un (rs' i)) :
  QN w (((((((W.setCell ⟨q,j * 7,none⟩ (.int .i64 u.x.id)).setCell ⟨q,j * 7+1,none⟩ (.int .i64 u.x.n)).setCell ⟨q,j * 7+2,none⟩ (.int .i64 u.x.cut)).setCell ⟨q,j * 7+3,none⟩ (.slice u.p0 u.ms.length u.c0)).setCell ⟨q,j * 7+4,none⟩ (.slice u.p1 u.x.fd.length u.c1)).setCell ⟨q,j * 7+5,none⟩ (.slice u.p2 u.su.length u.c2)).setCell ⟨q,j * 7+6,none⟩ (.slice u.p3 u.un.length u.c3)) g q ao len cap zs k V' m' (updo o j u) rs':=by
 have hgq:g≠q:=by have:=h.lt.1; omega
 have hrow:∀ (X:World) (i:Nat) (x:Value),Gen.IsRow .u8 X ao len cap zs->Gen.IsRow .u8 (X.setCell ⟨q,i,none⟩ x) ao len cap zs:=fun X i x hX=>xI_ hX (fun y hy hc=>by have:=hold y hy hc; have:=h.lt.2.2; omega) (yo_ X q i x)
 have hgr:∀ (X:World) (i:Nat) (x:Value),w.grownBy X (some g)->w.grownBy (X.setCell ⟨q,i,none⟩ x) (some g):=fun X i x hX=>yK_ hX (yo_ X q i x) (fun y hy=>.inl (by cases hy; exact h.lt.2.2))
 have hsz:∀ (X:World) (i:Nat) (x:Value),q < X.heap.size->q < (X.setCell ⟨q,i,none⟩ x).heap.size:=fun X i x hX=>by simpa [World.setCell] using hX
 obtain ⟨s,hs⟩:=h.src;refine ⟨⟨s,((((((hs.set hgq).set hgq).set hgq).set hgq).set hgq).set hgq).set hgq⟩,hrow _ _ _ (hrow _ _ _ (hrow _ _ _ (hrow _ _ _ (hrow _ _ _ (hrow _ _ _ (hrow _ _ _ h.row)))))),fun i hi3=>?_,h.th.set.set.set.set.set.set.set,fun i hi3=>?_,hi,⟨h.lt.1,hsz _ _ _ (hsz _ _ _ (hsz _ _ _ (hsz _ _ _ (hsz _ _ _ (hsz _ _ _ (hsz _ _ _ h.lt.2.1)))))),h.lt.2.2⟩,hgr _ _ _ (hgr _ _ _ (hgr _ _ _ (hgr _ _ _ (hgr _ _ _ (hgr _ _ _ (hgr _ _ _ h.grown))))))⟩
 ·by_cases e:i=j
  ·subst e;rw [xD_];refine ⟨?_,?_,?_,?_,?_,?_,?_⟩
   ·rw [zo_ (by omega),zo_ (by omega),zo_ (by omega),zo_ (by omega),zo_ (by omega),zo_ (by omega)]; exact zB_ (h.th _ (by omega)).1
   ·rw [zo_ (by omega),zo_ (by omega),zo_ (by omega),zo_ (by omega),zo_ (by omega)]; exact zB_ (h.th.set _ (by omega)).1
   ·rw [zo_ (by omega),zo_ (by omega),zo_ (by omega),zo_ (by omega)]; exact zB_ (h.th.set.set _ (by omega)).1
   ·rw [zo_ (by omega),zo_ (by omega),zo_ (by omega)]; exact zB_ (h.th.set.set.set _ (by omega)).1
   ·rw [zo_ (by omega),zo_ (by omega)]; exact zB_ (h.th.set.set.set.set _ (by omega)).1
   ·rw [zo_ (by omega)]; exact zB_ (h.th.set.set.set.set.set _ (by omega)).1
   ·exact zB_ (h.th.set.set.set.set.set.set _ (by omega)).1
  ·rw [y4_ o u e];obtain ⟨c0,c1,c2,c3,c4,c5,c6⟩:=h.nd i hi3;have e2:i < j∨j < i:=by omega
   refine ⟨?_,?_,?_,?_,?_,?_,?_⟩ <;> (rw [zo_ (by omega),zo_ (by omega),zo_ (by omega),zo_ (by omega),zo_ (by omega),zo_ (by omega),zo_ (by omega)]; assumption)
 ·have key:∀ (X:World) (y:No) (i:Nat) (x:Value),NoR (q+1) X y->NoR (q+1) (X.setCell ⟨q,i,none⟩ x) y:=fun X y i x hX=>hX.keep (zc_ (by omega))
  by_cases e:i=j
  ·subst e;rw [xD_];exact key _ _ _ _ (key _ _ _ _ (key _ _ _ _ (key _ _ _ _ (key _ _ _ _ (key _ _ _ _ (key _ _ _ _ hu))))))
  ·rw [y4_ o u e];exact key _ _ _ _ (key _ _ _ _ (key _ _ _ _ (key _ _ _ _ (key _ _ _ _ (key _ _ _ _ (key _ _ _ _ (h.nor i hi3)))))))
end
end
end Go.Proofs.YtijcjhcgpmnchaaGreatDoor
