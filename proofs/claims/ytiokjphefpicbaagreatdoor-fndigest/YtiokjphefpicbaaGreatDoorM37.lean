/- Nodes and their buckets, part 37 of the law FnDigest. -/
import Derived.Test.YtiokjphefpicbaaGreatDoorM36
namespace Go.Proofs.YtiokjphefpicbaaGreatDoor
open Go.RowKit
set_option maxRecDepth 100000
set_option maxHeartbeats 16000000
set_option linter.unusedSimpArgs false
set_option linter.unusedVariables false
variable {C:Cl} {P0 P1 P2 s:ByteArray} {W W' w w':World} {a c x y z:Int} {b c' c1 g gw i j l0 lo q:Nat} {l l2:List Sib} {o:No} {p p':Option Addr} {u u0 u1 u2 u3 v v0 v1 v2 v3 v4 v5 v6:Value} {vs:List Value}
theorem sE_ {t:ByteArray} (h:bl s=bl t):s=t:=qo_ h
theorem ps3 {ps:List ByteArray} {x z:List UInt8} {k:ByteArray} (h:ps.map bl=[x,bl k,z]):ps=[⟨x.toArray⟩,k,⟨z.toArray⟩]:=by
 rcases ps with _ | ⟨a,_ | ⟨b,_ | ⟨c,_ | ⟨d,ps⟩⟩⟩⟩
 ·simp at h
 ·simp at h
 ·simp at h
 ·simp at h
  obtain ⟨h1,h2,h3⟩:=h
  rw [sE_ (s:=a) (t:=⟨x.toArray⟩) (by rw [h1]; simp [bl]),sE_ h2,sE_ (s:=c) (t:=⟨z.toArray⟩) (by rw [h3]; simp [bl])]
 ·simp at h
structure RW (w W:World) (vs:List Value) (gw:Nat) (P0 P1 P2:ByteArray):Prop where
 x:Box W w.heap.size vs
 z:Box W (w.heap.size+1) nZ
 c0:W.cell? ⟨gw,0,none⟩=some (.string P0)
 c1:W.cell? ⟨gw,1,none⟩=some (.string P1)
 c2:W.cell? ⟨gw,2,none⟩=some (.string P2)
 b:Below w.heap.size w W
 g:gw≠w.heap.size
theorem RW.next (h:RW w W vs gw P0 P1 P2) (hb:Below W.heap.size W W'):RW w W' vs gw P0 P1 P2:=
 ⟨h.x.next hb,h.z.next hb,za_ hb h.c0 (zg_ h.c0),za_ hb h.c1 (zg_ h.c1),za_ hb h.c2 (zg_ h.c2),h.b.trans (hb.mono h.b.size),h.g⟩
theorem RW.lt (h:RW w W vs gw P0 P1 P2):w.heap.size+1 < W.heap.size∧gw < W.heap.size:=⟨h.z.lt,zg_ h.c0⟩
theorem RW.far (h:RW w W vs gw P0 P1 P2) (hq:w.heap.size+1 < q) (hg:gw≠q):RW w (W.setCell ⟨q,i,none⟩ u) vs gw P0 P1 P2:=
 ⟨h.x.oth (by omega),h.z.oth (by omega),zf_ h.c0 hg,zf_ h.c1 hg,zf_ h.c2 hg,zH_ h.b (by omega),h.g⟩
theorem RW.far4 (h:RW w W vs gw P0 P1 P2) (hq:w.heap.size+1 < q) (hg:gw≠q):RW w ((((W.setCell ⟨q,0,none⟩ u0).setCell ⟨q,1,none⟩ u1).setCell ⟨q,2,none⟩ u2).setCell ⟨q,3,none⟩ u3) vs gw P0 P1 P2:=(((h.far hq hg).far hq hg).far hq hg).far hq hg
theorem RW.at (h:RW w W vs gw P0 P1 P2) (hi:i < vs.length):RW w (W.setCell ⟨w.heap.size,i,none⟩ u) (vs.set i u) gw P0 P1 P2:=
 ⟨h.x.set hi,h.z.oth (by omega),zf_ h.c0 h.g,zf_ h.c1 h.g,zf_ h.c2 h.g,zH_ h.b (Nat.le_refl _),h.g⟩
def RecP (lo:Nat) (w:World) (o:No) (r:Bool × Cl) (e:Ending) (w':World):Prop:=
 ∃ u:No,e=.returned (.tuple #[nV u,.bool true])∧NoR lo w' u∧u.x=nxt o.x r∧u.su=o.su∧u.un=o.un∧(∀ b,b < w.heap.size→NoX o b→NoX u b)∧Below w.heap.size w w'
theorem ni_ {e:Ending} (hC:OkP C.l C.a C.b C.c) (h:ToP w (objT (vvT C.a C.b C.c) C.l) e w'):∃ vo vc,e=.returned (.tuple #[.agg #[.slice vo C.l.length vc,.int .i64 C.a,.int .i64 C.b,.int .i64 C.c],.bool true])∧GRow w.heap.size w' vo (flat C.l)∧C.l.length≤vc∧Below w.heap.size w w':=by
 rcases h with ⟨m,x,y,z,v,hg,rfl,ho,hk,hb⟩ | ⟨hn,_⟩
 ·obtain ⟨rfl,rfl,rfl,rfl⟩:=uV_ hg (x7_ hC)
  obtain ⟨p,c,rfl,hc,hG⟩:=yl_ ho (fun k h=>Nat.le_of_lt (hk k h))
  exact ⟨p,c,rfl,hG,hc,hb⟩
 ·exact (hn _ _ _ _ (x7_ hC)).elim
theorem xT_ {n:Int} (h:Box W b vs) (hi:i < vs.length) (hv:vs[i]=.int .i64 n) (hc:W.cell? ⟨g,i,none⟩=some (.string s)):g≠b:=fun e=>by
 subst e
 have:=(h.is i hi).1
 rw [hc,hv] at this
 cases this
def ObjP2 (lo:Nat) (w:World) (o:No) (k:ByteArray) (e:Ending) (w':World):Prop:=∃ p q,e=.returned (.agg #[.slice p (atC k o.x.cs).l.length q,.int .i64 (atC k o.x.cs).a,.int .i64 (atC k o.x.cs).b,.int .i64 (atC k o.x.cs).c])∧(∀ W0,NoR lo W0 o→GRow lo W0 p (flat (atC k o.x.cs).l))∧(atC k o.x.cs).l.length≤q∧Below w.heap.size w w'
theorem t9_ {k:ByteArray} {c:Cl} (he:atC k o.x.cs=c) (hr:∀ W0,NoR lo W0 o→GRow lo W0 p (flat c.l)) (hq:c.l.length≤q) (hB:Below w.heap.size w w'):ObjP2 lo w o k (.returned (.agg #[.slice p c.l.length q,.int .i64 c.a,.int .i64 c.b,.int .i64 c.c])) w':=by
 subst he
 exact ⟨p,q,rfl,hr,hq,hB⟩
theorem r1_ (lo:Nat) (o:No) (k:ByteArray) (w:World) (hm:o.ms.length≤100000) (h0:NoR lo w o) :
  Calls Tryz.prog 101 #[nV o,.string k] w fun e w'=>ObjP2 lo w o k e w':=by
 (try unfold nV)
 have h:Hid (NoR lo w o):=h0
 have CF:Hid (∀ W,NoR lo W o→Calls Tryz.prog 152 #[nV o,.string k] W fun e w'=>∃ i:Int,e=.returned (.int .i64 i)∧Hid (tP_ o.ms k i)∧Below W.heap.size W w'):=fun W hW=>wb_ lo o k W hm hW
 clear h0
 go_enter Tryz.func101,Tryz.ntmps101
 go_wp2_with fail
 go_at_call 152
 refine (CF.out _ ?_).mono ?_
 ·exact h.out.next (((zb_ _ _).trans ((zb_ _ _).mono (by simp))))
 rintro e w1 ⟨i,rfl,hF,hb0⟩
 have hB:Hid (Below w.heap.size w w1):=((zb_ _ _).trans ((zb_ _ _).mono (by simp))).trans (hb0.mono (by simp; omega))
 have c3:w1.cell? ⟨w.heap.size,3,none⟩=some (.slice o.p0 o.ms.length o.c0):=za_ hb0 (by go_simp) (by simp; omega)
 have d0:∃ v,w1.cell? ⟨w.heap.size+1,0,none⟩=some v:=⟨_,za_ hb0 (by go_simp; rfl) (by simp)⟩
 have d1:∃ v,w1.cell? ⟨w.heap.size+1,1,none⟩=some v:=⟨_,za_ hb0 (by go_simp; rfl) (by simp)⟩
 have d2:∃ v,w1.cell? ⟨w.heap.size+1,2,none⟩=some v:=⟨_,za_ hb0 (by go_simp; rfl) (by simp)⟩
 have d3:∃ v,w1.cell? ⟨w.heap.size+1,3,none⟩=some v:=⟨_,za_ hb0 (by go_simp; rfl) (by simp)⟩
 have f0:w1.frozen? ⟨w.heap.size+1,0,none⟩=false:=zd_ hb0 (by go_simp) (by simp)
 have f1:w1.frozen? ⟨w.heap.size+1,1,none⟩=false:=zd_ hb0 (by go_simp) (by simp)
 have f2:w1.frozen? ⟨w.heap.size+1,2,none⟩=false:=zd_ hb0 (by go_simp) (by simp)
 have f3:w1.frozen? ⟨w.heap.size+1,3,none⟩=false:=zd_ hb0 (by go_simp) (by simp)
 have hz:w.heap.size+1 < w1.heap.size:=Nat.lt_of_lt_of_le (by simp) hb0.size
 clear hb0
 obtain ⟨y0,d0⟩:=d0
 obtain ⟨y1,d1⟩:=d1
 obtain ⟨y2,d2⟩:=d2
 obtain ⟨y3,d3⟩:=d3
 rcases hF.out with ⟨hn,rfl⟩ | ⟨j,hj,rfl,hk,hg⟩
 focus
  have HA:Hid (atC k o.x.cs=⟨k,[],0,0,0⟩):=od_ h.out hn
  have q1:((-1:Int)) < 0:=by omega
  clear hF
  go_wp2
  refine bodyPost_ret (v:=.agg #[.slice (some ⟨w1.heap.size,0,none⟩) 0 0,.int .i64 0,.int .i64 0,.int .i64 0]) (by simp [results,Tryz.results101,go_sem, *]) rfl ?_
  refine t9_ (c:=⟨k,[],0,0,0⟩) HA.out (fun _ _=>.inl rfl) (Nat.le_refl _) ?_
 rotate_left
 focus
  rcases (h.out.r0.next hB.out).cm with h' | ⟨q,off,hp,_,h2⟩
  ·rw [h'] at hj; simp at hj
  obtain ⟨x0,x1,x2,x3,x4⟩:=h2 j hj
  have HA:Hid (atC k o.x.cs=o.ms[j].c):=qX_ h.out hg
  have hj':(j:Int) < (o.ms.length:Int):=by omega
  have kk:¬ (j:Int) < 0:=by omega
  rw [hp] at c3
  clear h2 hF hk hg x0
  go_wp2
  refine bodyPost_ret (v:=.agg #[.slice o.ms[j].p o.ms[j].c.l.length o.ms[j].q,.int .i64 o.ms[j].c.a,.int .i64 o.ms[j].c.b,.int .i64 o.ms[j].c.c]) (by simp [results,Tryz.results101,go_sem, *]) rfl ?_
  refine t9_ HA.out (fun W0 h'=>(h'.rs _ (List.getElem_mem hj)).1) (h.out.rs _ (List.getElem_mem hj)).2 ?_
 rotate_left
 all_goals
  repeat (first | exact Below.refl _ _ | refine Below.drew ?_ | refine below_drewN ?_ _ | refine Below.alloc ?_ (by first | (simp; done) | (simp; omega)) _ | refine Below.setCell ?_ (by first | (simp; done) | (simp; omega)) _)
  exact hB.out
theorem y0_ (h:RW w W (nL o) gw P0 P1 P2):W.cell? ⟨w.heap.size,0,none⟩=some (.int .i64 o.x.id)∧W.cell? ⟨w.heap.size,1,none⟩=some (.int .i64 o.x.n)∧W.cell? ⟨w.heap.size,2,none⟩=some (.int .i64 o.x.cut)∧W.cell? ⟨w.heap.size,3,none⟩=some (.slice o.p0 o.ms.length o.c0)∧W.cell? ⟨w.heap.size,4,none⟩=some (.slice o.p1 o.x.fd.length o.c1)∧W.cell? ⟨w.heap.size,5,none⟩=some (.slice o.p2 o.su.length o.c2)∧W.cell? ⟨w.heap.size,6,none⟩=some (.slice o.p3 o.un.length o.c3)∧W.cell? ⟨gw,1,none⟩=some (.string P1):=by
 obtain ⟨b0,b1,b2,b3,b4,b5,b6⟩:=h.x.c7
 exact ⟨b0,b1,b2,b3,b4,b5,b6,h.c1⟩
theorem yW_ (h:GRow lo W p vs) (hg:W.heap.size≤g):∀ x,p=some x→vs≠[]→x.block≠g:=fun x hx hv e=>by
 rcases h with h | ⟨b,off,rfl,_,h3⟩
 ·exact hv h
 ·cases hx
  have hl:0 < vs.length:=List.length_pos_iff.2 hv
  have:=zg_ (h3 0 hl)
  dsimp only at e this
  omega
theorem oj_ (l:List Sib) (a b c:Int):Same l l a b c a b c:=⟨by simp,rfl,fun i h h2=>by simp [sibB]⟩
theorem oh_ {s t:Sib} (h:sibB s t=true):s=t:=by
 cases s
 cases t
 simp [sibB] at h
 simp [h]
theorem rJ_ {b:Int} (h:Same l l2 a b c x y z):l=l2∧a=x∧b=y∧c=z:=by
 obtain ⟨h1,h2,h3⟩:=h
 simp at h1
 exact ⟨List.ext_getElem h2 (fun i hi hi2=>oh_ (h3 i hi hi2)),h1.1,h1.2.1,h1.2.2⟩
theorem wq_ {b9:Nat} (hx:Box W w.heap.size [v0,v1,v2,v3,v4,v5,v6]) (hc:W.cell? ⟨gw,1,none⟩=some (.string P1)) (h9:Box W b9 [u0,u1,u2,u3]):(W.cell? ⟨w.heap.size,0,none⟩=some (v0)∧W.cell? ⟨w.heap.size,1,none⟩=some (v1)∧W.cell? ⟨w.heap.size,2,none⟩=some (v2)∧W.cell? ⟨w.heap.size,3,none⟩=some (v3)∧W.cell? ⟨w.heap.size,4,none⟩=some (v4)∧W.cell? ⟨w.heap.size,5,none⟩=some (v5)∧W.cell? ⟨w.heap.size,6,none⟩=some (v6)∧W.cell? ⟨gw,1,none⟩=some (.string P1))∧(W.cell? ⟨b9,0,none⟩=some (u0)∧W.cell? ⟨b9,1,none⟩=some (u1)∧W.cell? ⟨b9,2,none⟩=some (u2)∧W.cell? ⟨b9,3,none⟩=some (u3)):=by
 obtain ⟨b0,b1,b2,b3,b4,b5,b6⟩:=hx.c7
 exact ⟨⟨b0,b1,b2,b3,b4,b5,b6,hc⟩,h9.c4⟩
theorem pZ_ {b12 b9:Nat} {d0 d1:Value} (hx:Box W w.heap.size [v0,v1,v2,v3,v4,v5,v6]) (h9:Box W b9 [u0,u1,u2,u3]) (hd:Box W b12 [d0,d1]):W.cell? ⟨w.heap.size,0,none⟩=some v0∧(W.cell? ⟨b9,0,none⟩=some (u0)∧W.cell? ⟨b9,1,none⟩=some (u1)∧W.cell? ⟨b9,2,none⟩=some (u2)∧W.cell? ⟨b9,3,none⟩=some (u3))∧(W.cell? ⟨b12,0,none⟩=some (d0)∧W.cell? ⟨b12,1,none⟩=some (d1)):=⟨hx.c7.1,h9.c4,hd.c2⟩
theorem qH_ (h:W.cell? ⟨b,j,none⟩=some v) (hne:b≠g):((((((((W.setCell ⟨g,0,none⟩ (v0)).setCell ⟨g,1,none⟩ (v1)).setCell ⟨g,2,none⟩ (v2)).setCell ⟨g,3,none⟩ (v3)).setCell ⟨g,4,none⟩ (v4)).setCell ⟨g,5,none⟩ (v5)).setCell ⟨g,6,none⟩ (v6))).cell? ⟨b,j,none⟩=some v:=zf_ (zf_ (zf_ (zf_ (zf_ (zf_ (zf_ h hne) hne) hne) hne) hne) hne) hne
theorem w1_ (hg:g < lo) {p:Option Addr} {vs:List Value} (h:GRow lo W p vs):GRow lo ((((((((W.setCell ⟨g,0,none⟩ (v0)).setCell ⟨g,1,none⟩ (v1)).setCell ⟨g,2,none⟩ (v2)).setCell ⟨g,3,none⟩ (v3)).setCell ⟨g,4,none⟩ (v4)).setCell ⟨g,5,none⟩ (v5)).setCell ⟨g,6,none⟩ (v6))) p vs:=((((((h.keep (zh_ hg)).keep (zh_ hg)).keep (zh_ hg)).keep (zh_ hg)).keep (zh_ hg)).keep (zh_ hg)).keep (zh_ hg)
theorem vC_ (h:Below w.heap.size w W) (hg:w.heap.size≤g):Below w.heap.size w ((((((((W.setCell ⟨g,0,none⟩ (v0)).setCell ⟨g,1,none⟩ (v1)).setCell ⟨g,2,none⟩ (v2)).setCell ⟨g,3,none⟩ (v3)).setCell ⟨g,4,none⟩ (v4)).setCell ⟨g,5,none⟩ (v5)).setCell ⟨g,6,none⟩ (v6))):=zH_ (zH_ (zH_ (zH_ (zH_ (zH_ (zH_ h hg) hg) hg) hg) hg) hg) hg
theorem sa_ {X:Nd} {pf:Option Addr} {cf:Nat} (h:NoR lo w o) (hB:Below w.heap.size w W) (hx:X.cs=o.x.cs) (h1:GRow lo W pf (zm_ X.fd)) (k1:X.fd.length≤cf):NoR lo W { o with x:=X,p1:=pf,c1:=cf }:=
 ⟨hx.trans h.cs,(h.next hB).r0,h1,(h.next hB).r2,(h.next hB).r3,(h.next hB).rs,h.le.1,k1,h.le.2.2⟩
theorem r6_ {c:Cl} {p1:Option Addr} {x:Nd} (hb:b < l0) (h:NoX o b) (hr:GRow l0 W p (flat c.l)) (hg:GRow l0 W p' (zn_ (setM ⟨c,p,q⟩ o.ms))) (h1:∀ y,p1=some y→zm_ x.fd≠[]→y.block≠b) :
  NoX ⟨x,setM ⟨c,p,q⟩ o.ms,p',c',p1,c1,o.p2,o.c2,o.p3,o.c3,o.su,o.un⟩ b:=by
 refine ⟨yK_ hg hb,h1,h.2.2.1,h.2.2.2.1,fun m hm=>?_⟩
 rcases yC_ hm with rfl | hm
 ·exact yK_ hr hb
 ·exact h.2.2.2.2 m hm
theorem nH_ {W9:World} (hg:g < l0) (h:Kept l0 W9 W) (hz:g < W9.heap.size):Kept l0 W9 ((((((((W.setCell ⟨g,0,none⟩ (v0)).setCell ⟨g,1,none⟩ (v1)).setCell ⟨g,2,none⟩ (v2)).setCell ⟨g,3,none⟩ (v3)).setCell ⟨g,4,none⟩ (v4)).setCell ⟨g,5,none⟩ (v5)).setCell ⟨g,6,none⟩ (v6))):=fun b hl hb=>by
 rw [← h b hl hb]
 have e:∀ (V:World) (i:Nat) (u:Value),(V.setCell ⟨g,i,none⟩ u).heap[b]? = V.heap[b]?:=fun V i u=>Below.heap_setCell V ⟨g,i,none⟩ u b (by simp; omega)
 rw [e,e,e,e,e,e,e]
theorem oe_ {P:Program} {c:Code} {Q:Exit→Act→World→Prop} {a:Act} (h:∀ K:Act→World→Prop,(∀ a w,Q .normal a w→K a w)→Code.wp P c (Exit.then K Q) a W):Code.wp P c Q a W:=Code.wp_mono (fun e _ _ h=>by cases e <;> exact h) (h (fun a w=>Q .normal a w) (fun _ _ h=>h))
theorem zK_ {b12:Nat} {d0 d1:Value} (hd:Box W b12 [d0,d1]) (hc:W.cell? ⟨gw,1,none⟩=some (.string P1)):(W.cell? ⟨b12,0,none⟩=some (d0)∧W.cell? ⟨b12,1,none⟩=some (d1))∧W.cell? ⟨gw,1,none⟩=some (.string P1):=⟨hd.c2,hc⟩
theorem tm_ (lo:Nat) (o:No) (pb:Bool) (C:Cl) (w:World) (hlo:lo≤w.heap.size) (hm:o.ms.length < 100) (hf:o.x.fd.length≤100000) (hid:o.x.id=0∨o.x.id=1∨o.x.id=2) (hF:Fol o.x (pb,C)) (h0:NoR lo w o) :
  Calls Tryz.prog 159 #[nV o,.string (recT pb C)] w (RecP lo w o (pb,C)):=by
 (try unfold nV)
 have HN:Hid (NoR lo w o):=h0
 have HF:=hm_ hF
 have HKP:Hid (keyP C.k):=hF.key
 have HOC:=hm_ hF.ok
 have hks:C.k.size≤6:=hF.key.2.1
 have hsz:(recT pb C).size≤1048576:=by have:=yG_ pb C hks hF.ok; omega
 have hsz2:(⟨(objT (vvT C.a C.b C.c) C.l).toArray⟩:ByteArray).size≤65536:=by have h1:(objT (vvT C.a C.b C.c) C.l).length≤4000:=xy_ hF.ok; rw [vF_]; omega
 have X0:Hid (Box ((w.alloc (.cells (nL o).toArray 29)).alloc (.cells nZ.toArray 29)) w.heap.size (nL o)∧Box ((w.alloc (.cells (nL o).toArray 29)).alloc (.cells nZ.toArray 29)) (w.heap.size+1) nZ∧Below w.heap.size w ((w.alloc (.cells (nL o).toArray 29)).alloc (.cells nZ.toArray 29))):=⟨zo_.next (zb_ _ _),by have:=zo_ (W:=w.alloc (.cells (nL o).toArray 29)) (t:=29) (vs:=nZ); simpa using this,(zb_ _ _).trans ((zb_ _ _).mono (zb_ _ _).size)⟩
 clear h0 hF
 go_enter Tryz.func159,Tryz.ntmps159
 go_wp2_with fail
 refine (ud_ (recT pb C) 32 _ hsz (by omega)).mono ?_
 rintro e w1 ⟨gw,capw,ps,rfl,hps,_,hcell,hb⟩
 have e3:(UInt8.ofNat 32)=32:=rfl
 rw [e3,rS_ pb C HKP.out HOC.out] at hps
 obtain rfl:=ps3 hps
 have R1:Hid (RW w w1 (nL o) gw ⟨(yq_ pb).toArray⟩ C.k ⟨(objT (vvT C.a C.b C.c) C.l).toArray⟩):=by
  have x1:=X0.out.1.next hb
  have c1:=hcell 1 (by simp)
  exact ⟨x1,X0.out.2.1.next hb,hcell 0 (by simp),c1,hcell 2 (by simp),X0.out.2.2.trans (hb.mono X0.out.2.2.size),xT_ x1 (i:=1) (by simp) rfl c1⟩
 clear hps hcell hb X0
 simp only [List.length_cons,List.length_nil,Nat.zero_add,Nat.reduceAdd]
 have k1:=R1.out.c1
 have k2:=R1.out.c2
 go_wp2_with fail
 refine (tc_ C.k true ⟨fun _=>HKP.out,fun _=>rfl⟩ _ (by omega)).mono ?_
 rintro e w2 ⟨rfl,hb⟩
 have R2:Hid _:=R1.out.next hb
 clear hb R1 k1 k2
 have k2:=R2.out.c2
 go_wp2_with fail
 refine (uH_ ⟨(objT (vvT C.a C.b C.c) C.l).toArray⟩ _ hsz2).mono ?_
 rintro e w3 hT
 obtain ⟨vo,vc,rfl,hg3,hvc,hb⟩:=ni_ HOC.out (by simpa [bl] using hT)
 have R3:Hid _:=R2.out.next hb
 have G3:=hm_ hg3
 have HZ3:Hid (w.heap.size+2≤w2.heap.size):=R2.out.lt.1
 clear hT hg3 hb R2 k2
 go_upto_region 10 with fail
 refine zQ_ (fun W=>RW w W (nL o) gw ⟨(yq_ pb).toArray⟩ C.k ⟨(objT (vvT C.a C.b C.c) C.l).toArray⟩∧Box W w3.heap.size [.slice vo C.l.length vc,.int .i64 C.a,.int .i64 C.b,.int .i64 C.c]∧GRow (w.heap.size+2) W vo (flat C.l)∧(w.heap.size+1 < w3.heap.size∧gw < w3.heap.size)) ⟨R3.out.next (zb_ _ _),zo_,(G3.out.next (zb_ _ _)).weak HZ3.out,R3.out.lt⟩ (fun W4 hI=>?_)
 generalize w3.heap.size=b9 at *
 have R4:=hm_ hI.1
 have B4:=hm_ hI.2.1
 have G4:=hm_ hI.2.2.1
 have HL4:=hm_ hI.2.2.2
 clear hI R3 G3 HZ3
 obtain ⟨H,hH⟩:∃ H:Cl,H=atC C.k o.x.cs:=⟨_,rfl⟩
 have CO:Hid (∀ W,NoR lo W o→Calls Tryz.prog 101 #[nV o,.string C.k] W fun e w'=>∃ p q,e=.returned (.agg #[.slice p H.l.length q,.int .i64 H.a,.int .i64 H.b,.int .i64 H.c])∧(∀ W0,NoR lo W0 o→GRow lo W0 p (flat H.l))∧H.l.length≤q∧Below W.heap.size W w'):=fun W hW=>by rw [hH]; exact r1_ lo o C.k W (by omega) hW
 have HH:=hm_ hH
 clear hH
 go_cut [11] from 65 to 69 (fun s11 wc=>∃ (b11:Nat) (p1:Option Addr) (q1:Nat),s11=.pointer (some ⟨b11,0,none⟩)∧RW w wc [.int .i64 o.x.id,.int .i64 o.x.n,.int .i64 o.x.cut,.slice o.p0 o.ms.length o.c0,.slice o.p1 o.x.fd.length o.c1,.slice o.p2 o.su.length o.c2,.slice o.p3 o.un.length o.c3] gw ⟨(yq_ pb).toArray⟩ C.k ⟨(objT (vvT C.a C.b C.c) C.l).toArray⟩∧Box wc b9 [.slice vo C.l.length vc,.int .i64 C.a,.int .i64 C.b,.int .i64 C.c]∧GRow (w.heap.size+2) wc vo (flat C.l)∧Box wc b11 [.slice p1 H.l.length q1,.int .i64 H.a,.int .i64 H.b,.int .i64 H.c]∧(GRow lo wc p1 (flat H.l)∧H.l.length≤q1)∧b9 < b11)
 case first=>
  refine wp_region_held_drew (S:=(fun w'=>w'.cell? ⟨w.heap.size,0,none⟩=some (.int .i64 o.x.id)∧w'.cell? ⟨w.heap.size,1,none⟩=some (.int .i64 o.x.n)∧w'.cell? ⟨w.heap.size,2,none⟩=some (.int .i64 o.x.cut)∧w'.cell? ⟨w.heap.size,3,none⟩=some (.slice o.p0 o.ms.length o.c0)∧w'.cell? ⟨w.heap.size,4,none⟩=some (.slice o.p1 o.x.fd.length o.c1)∧w'.cell? ⟨w.heap.size,5,none⟩=some (.slice o.p2 o.su.length o.c2)∧w'.cell? ⟨w.heap.size,6,none⟩=some (.slice o.p3 o.un.length o.c3)∧w'.cell? ⟨gw,1,none⟩=some (.string C.k))) (by kernel_rfl) ?_ (fun hH=>?_)
  ·(try dsimp only)
   exact y0_ (R4.out.next (zc_ _))
  have BW:Hid (Below W4.heap.size W4 W4.drew):=zc_ _
  refine wTk 0 ?_
  refine wTk 1 ?_
  refine wTk 2 ?_
  refine wTk 3 ?_
  generalize W4.drew=wd at *
  refine wpAnyH_ready (rs:=[4,5]) (by kernel_rfl) (by simp) ?_
  refine AllReadyH.cons rfl (fun K hK=>?_) (AllReadyH.cons rfl (fun K hK=>?_) AllReadyH.nil)
  focus
   refine wLy ?_
   go_simp
   go_at_call 101
   refine (CO.out _ (HN.out.next (R4.out.next BW.out).b)).mono ?_
   rintro e x0 ⟨p1,q1,rfl,hg1,hq1,hb1⟩
   (try simp only [])
   have HG1:Hid (GRow lo W4 p1 (flat H.l)):=hg1 W4 (HN.out.next R4.out.b)
   have HQ1:=hm_ hq1
   replace BW:=ze_ BW hb1
   clear hg1 hq1 hb1
   refine wHk hK (y0_ (R4.out.next BW.out)) ?_
   clear hK K hH
   intro hH
   refine wRd 5 (fun K hK=>?_)
   go_simp
   (try simp only [])
   have B9:Hid (Box (x0.alloc (.cells #[.slice none 0 0,.int .i64 0,.int .i64 0,.int .i64 0] 37)) x0.heap.size [.slice none 0 0,.int .i64 0,.int .i64 0,.int .i64 0]):=zo_
   have hge:Hid (W4.heap.size≤x0.heap.size):=BW.out.size
   replace BW:=ze_ BW (zb_ x0 (.cells #[.slice none 0 0,.int .i64 0,.int .i64 0,.int .i64 0] 37))
   refine wHk hK (y0_ (R4.out.next BW.out)) ?_
   clear hK K hH
   intro hH
   generalize x0.alloc (.cells #[.slice none 0 0,.int .i64 0,.int .i64 0,.int .i64 0] 37)=x1 at *
   generalize x0.heap.size=g11 at *
  rotate_left
  focus
   refine wLy ?_
   go_simp
   (try simp only [])
   have B9:Hid (Box (wd.alloc (.cells #[.slice none 0 0,.int .i64 0,.int .i64 0,.int .i64 0] 37)) wd.heap.size [.slice none 0 0,.int .i64 0,.int .i64 0,.int .i64 0]):=zo_
   have hge:Hid (W4.heap.size≤wd.heap.size):=BW.out.size
   replace BW:=ze_ BW (zb_ wd (.cells #[.slice none 0 0,.int .i64 0,.int .i64 0,.int .i64 0] 37))
   refine wHk hK (y0_ (R4.out.next BW.out)) ?_
   clear hK K hH
   intro hH
   generalize wd.alloc (.cells #[.slice none 0 0,.int .i64 0,.int .i64 0,.int .i64 0] 37)=x0 at *
   generalize wd.heap.size=g11 at *
   refine wRd 4 (fun K hK=>?_)
   go_simp
   go_at_call 101
   refine (CO.out _ (HN.out.next (R4.out.next BW.out).b)).mono ?_
   rintro e x1 ⟨p1,q1,rfl,hg1,hq1,hb1⟩
   (try simp only [])
   replace B9:Hid _:=B9.out.next hb1
   have HG1:Hid (GRow lo W4 p1 (flat H.l)):=hg1 W4 (HN.out.next R4.out.b)
   have HQ1:=hm_ hq1
   replace BW:=ze_ BW hb1
   clear hg1 hq1 hb1
   refine wHk hK (y0_ (R4.out.next BW.out)) ?_
   clear hK K hH
   intro hH
  rotate_left
  all_goals
   obtain ⟨y0,y1,y2,y3⟩:=B9.out.c4
   obtain ⟨f0,f1,f2,f3⟩:=B9.out.f4
   have hl9:b9 < g11:=Nat.lt_of_lt_of_le B4.out.lt hge.out
   have hlz:=HL4.out
   have R9:Hid (RW w ((((x1.setCell ⟨g11,0,none⟩ (.slice p1 H.l.length q1)).setCell ⟨g11,1,none⟩ (.int .i64 H.a)).setCell ⟨g11,2,none⟩ (.int .i64 H.b)).setCell ⟨g11,3,none⟩ (.int .i64 H.c)) (nL o) gw ⟨(yq_ pb).toArray⟩ C.k ⟨(objT (vvT C.a C.b C.c) C.l).toArray⟩):=(R4.out.next BW.out).far4 (by omega) (by omega)
   have B49:Hid (Box ((((x1.setCell ⟨g11,0,none⟩ (.slice p1 H.l.length q1)).setCell ⟨g11,1,none⟩ (.int .i64 H.a)).setCell ⟨g11,2,none⟩ (.int .i64 H.b)).setCell ⟨g11,3,none⟩ (.int .i64 H.c)) b9 [.slice vo C.l.length vc,.int .i64 C.a,.int .i64 C.b,.int .i64 C.c]):=(B4.out.next BW.out).o4 (by omega)
   have G49:Hid (GRow (w.heap.size+2) ((((x1.setCell ⟨g11,0,none⟩ (.slice p1 H.l.length q1)).setCell ⟨g11,1,none⟩ (.int .i64 H.a)).setCell ⟨g11,2,none⟩ (.int .i64 H.b)).setCell ⟨g11,3,none⟩ (.int .i64 H.c)) vo (flat C.l)):=((((G4.out.next BW.out).oth (yW_ G4.out hge.out)).oth (yW_ G4.out hge.out)).oth (yW_ G4.out hge.out)).oth (yW_ G4.out hge.out)
   have BH9:Hid (Box ((((x1.setCell ⟨g11,0,none⟩ (.slice p1 H.l.length q1)).setCell ⟨g11,1,none⟩ (.int .i64 H.a)).setCell ⟨g11,2,none⟩ (.int .i64 H.b)).setCell ⟨g11,3,none⟩ (.int .i64 H.c)) g11 [.slice p1 H.l.length q1,.int .i64 H.a,.int .i64 H.b,.int .i64 H.c]):=B9.out.s4
   have GH9:Hid (GRow lo ((((x1.setCell ⟨g11,0,none⟩ (.slice p1 H.l.length q1)).setCell ⟨g11,1,none⟩ (.int .i64 H.a)).setCell ⟨g11,2,none⟩ (.int .i64 H.b)).setCell ⟨g11,3,none⟩ (.int .i64 H.c)) p1 (flat H.l)):=((((HG1.out.next BW.out).oth (yW_ HG1.out hge.out)).oth (yW_ HG1.out hge.out)).oth (yW_ HG1.out hge.out)).oth (yW_ HG1.out hge.out)
   refine wRd 6 (fun K hK=>?_)
   go_simp
   (try simp only [])
   refine wHk hK (y0_ R9.out) ?_
   clear hK K hH
   intro hH
   refine wDn ?_
   clear hH y0 y1 y2 y3 f0 f1 f2 f3
   go_wp2_with fail
   go_meet
   case rel=>exact ⟨g11,p1,q1,rfl,R9.out,B49.out,G49.out,BH9.out,⟨GH9.out,HQ1.out⟩,hl9⟩
 case rest=>
  obtain ⟨b11,p1,q1,rfl,hr5,hb5,hg5,hh5,hgh5,hl5⟩:=hcut
  generalize wc=W5 at *
  have R5:=hm_ hr5
  have B5:=hm_ hb5
  have G5:=hm_ hg5
  have BH5:=hm_ hh5
  have GH5:=hm_ hgh5.1
  have HQ1:=hm_ hgh5.2
  have HL5:Hid (b9 < b11):=hl5
  clear hr5 hb5 hg5 hh5 hgh5 hl5 R4 B4 G4 CO
  have HHK:OkP H.l H.a H.b H.c:=by rw [HH.out]; exact HF.out.okh
  have hhl:(H.l.length:Int)≤1048576:=by have:=HHK.1; omega
  have hcl:(C.l.length:Int)≤1048576:=by have:=HOC.out.1; omega
  have HNS:Hid ((false:Bool)=true↔Same H.l C.l H.a H.b H.c C.a C.b C.c):=⟨fun h=>Bool.noConfusion h,fun h=>(HF.out.ne (by have:=rJ_ h; rw [HH.out] at this; exact this)).elim⟩
  have CF:Hid (∀ W,NoR lo W o→Calls Tryz.prog 152 #[nV o,.string C.k] W fun e w'=>∃ i:Int,e=.returned (.int .i64 i)∧Hid (tP_ o.ms C.k i)∧Below W.heap.size W w'):=fun W hW=>wb_ lo o C.k W (by omega) hW
  have CJ:Hid (∀ W,zk_ W p1 H.l→zk_ W vo C.l→Calls Tryz.prog 131 #[.agg #[.slice p1 H.l.length q1,.int .i64 H.a,.int .i64 H.b,.int .i64 H.c],.agg #[.slice vo C.l.length vc,.int .i64 C.a,.int .i64 C.b,.int .i64 C.c]] W fun e w'=>∃ pj qj,e=.returned (.agg #[.slice pj C.l.length qj,.int .i64 C.a,.int .i64 C.b,.int .i64 C.c])∧Below W.heap.size W w'∧zk_ w' pj C.l):=fun W h1 h2=>by
   refine (vs_ q1 vc p1 vo H.l C.l H.a H.b H.c C.a C.b C.c W HHK HOC.out hvc h1 h2).mono ?_
   rintro e w' ⟨v,rfl,hg,ho⟩
   have hc:=HF.out.cov'
   have hl:=HF.out.le
   dsimp only at hc hl
   rw [← HH.out] at hc hl
   rw [hc] at ho
   have m1:max H.a C.a=C.a:=by omega
   have m2:max H.b C.b=C.b:=by omega
   have m3:max H.c C.c=C.c:=by omega
   obtain ⟨p,c,rfl,_,hG⟩:=yl_ (lo:=0) ho (fun _ _=>Nat.zero_le _)
   exact ⟨p,c,by rw [m1,m2,m3],hg.below (Nat.le_refl _) (fun k hk=>absurd hk Gro.none_ne),hG.sib⟩
  have h100:¬ (o.ms.length:Int)=100:=by omega
  have h100b:((o.ms.length:Int) == 100)=false:=beq_false_of_ne h100
  go_upto_region 11 with fail
  go_cut [98] from 70 to 98 (fun s98 wc=>s98=.bool false∧RW w wc [.int .i64 o.x.id,.int .i64 o.x.n,.int .i64 o.x.cut,.slice o.p0 o.ms.length o.c0,.slice o.p1 o.x.fd.length o.c1,.slice o.p2 o.su.length o.c2,.slice o.p3 o.un.length o.c3] gw ⟨(yq_ pb).toArray⟩ C.k ⟨(objT (vvT C.a C.b C.c) C.l).toArray⟩∧Box wc b9 [.slice vo C.l.length vc,.int .i64 C.a,.int .i64 C.b,.int .i64 C.c]∧GRow (w.heap.size+2) wc vo (flat C.l))
  case first=>
   by_cases hgm:getM C.k o.ms=none
   focus
    refine wp_region_held_drew (S:=(fun w'=>(w'.cell? ⟨w.heap.size,0,none⟩=some (.int .i64 o.x.id)∧w'.cell? ⟨w.heap.size,1,none⟩=some (.int .i64 o.x.n)∧w'.cell? ⟨w.heap.size,2,none⟩=some (.int .i64 o.x.cut)∧w'.cell? ⟨w.heap.size,3,none⟩=some (.slice o.p0 o.ms.length o.c0)∧w'.cell? ⟨w.heap.size,4,none⟩=some (.slice o.p1 o.x.fd.length o.c1)∧w'.cell? ⟨w.heap.size,5,none⟩=some (.slice o.p2 o.su.length o.c2)∧w'.cell? ⟨w.heap.size,6,none⟩=some (.slice o.p3 o.un.length o.c3)∧w'.cell? ⟨gw,1,none⟩=some (.string C.k))∧(w'.cell? ⟨b9,0,none⟩=some (.slice vo C.l.length vc)∧w'.cell? ⟨b9,1,none⟩=some (.int .i64 C.a)∧w'.cell? ⟨b9,2,none⟩=some (.int .i64 C.b)∧w'.cell? ⟨b9,3,none⟩=some (.int .i64 C.c))∧(w'.cell? ⟨b11,0,none⟩=some (.slice p1 H.l.length q1)∧w'.cell? ⟨b11,1,none⟩=some (.int .i64 H.a)∧w'.cell? ⟨b11,2,none⟩=some (.int .i64 H.b)∧w'.cell? ⟨b11,3,none⟩=some (.int .i64 H.c))∧Below W5.heap.size W5 w')) (by kernel_rfl) ?_ (fun hH=>?_)
    ·(try dsimp only)
     exact ⟨y0_ (R5.out.next (zc_ _)),(B5.out.next (zc_ _)).c4,(BH5.out.next (zc_ _)).c4,zc_ _⟩
    refine wTk 0 ?_
    refine wTk 1 ?_
    refine wTk 2 ?_
    refine wTk 3 ?_
    refine wTk 4 ?_
    refine wTk 5 ?_
    refine wTk 6 ?_
    refine wRd 7 (fun K hK=>?_)
    go_simp
    (go_at_call 152; refine (CF.out _ (HN.out.next (R5.out.next hH.2.2.2).b)).mono ?_; rintro e x7 ⟨i,rfl,hFi,hb⟩; obtain rfl:i = -1:=by rcases hFi.out with ⟨_,h⟩ | ⟨j,hj,_,_,h⟩; exact h; rw [hgm] at h; cases h)
    (try simp only [])
    refine hK.out _ _ ?_ (fun hH'=>?_)
    ·(try dsimp only)
     exact ⟨y0_ (R5.out.next (hH.2.2.2.trans (hb.mono hH.2.2.2.size))),(B5.out.next (hH.2.2.2.trans (hb.mono hH.2.2.2.size))).c4,(BH5.out.next (hH.2.2.2.trans (hb.mono hH.2.2.2.size))).c4,hH.2.2.2.trans (hb.mono hH.2.2.2.size)⟩
    clear hK K
    clear hH
    have hH:=hH'
    clear hH'
    clear hb hFi
    refine wLy ?_
    refine wTk 8 ?_
    refine wTk 9 ?_
    refine wTk 10 ?_
    refine wTk 11 ?_
    refine wTk 12 ?_
    refine wTk 13 ?_
   rotate_left
   focus
    refine wp_region_held_drew (S:=(fun w'=>(w'.cell? ⟨w.heap.size,0,none⟩=some (.int .i64 o.x.id)∧w'.cell? ⟨w.heap.size,1,none⟩=some (.int .i64 o.x.n)∧w'.cell? ⟨w.heap.size,2,none⟩=some (.int .i64 o.x.cut)∧w'.cell? ⟨w.heap.size,3,none⟩=some (.slice o.p0 o.ms.length o.c0)∧w'.cell? ⟨w.heap.size,4,none⟩=some (.slice o.p1 o.x.fd.length o.c1)∧w'.cell? ⟨w.heap.size,5,none⟩=some (.slice o.p2 o.su.length o.c2)∧w'.cell? ⟨w.heap.size,6,none⟩=some (.slice o.p3 o.un.length o.c3)∧w'.cell? ⟨gw,1,none⟩=some (.string C.k))∧(w'.cell? ⟨b9,0,none⟩=some (.slice vo C.l.length vc)∧w'.cell? ⟨b9,1,none⟩=some (.int .i64 C.a)∧w'.cell? ⟨b9,2,none⟩=some (.int .i64 C.b)∧w'.cell? ⟨b9,3,none⟩=some (.int .i64 C.c))∧(w'.cell? ⟨b11,0,none⟩=some (.slice p1 H.l.length q1)∧w'.cell? ⟨b11,1,none⟩=some (.int .i64 H.a)∧w'.cell? ⟨b11,2,none⟩=some (.int .i64 H.b)∧w'.cell? ⟨b11,3,none⟩=some (.int .i64 H.c))∧Below W5.heap.size W5 w')) (by kernel_rfl) ?_ (fun hH=>?_)
    ·(try dsimp only)
     exact ⟨y0_ (R5.out.next (zc_ _)),(B5.out.next (zc_ _)).c4,(BH5.out.next (zc_ _)).c4,zc_ _⟩
    refine wTk 0 ?_
    refine wTk 1 ?_
    refine wTk 2 ?_
    refine wTk 3 ?_
    refine wTk 4 ?_
    refine wTk 5 ?_
    refine wTk 6 ?_
    refine wRd 7 (fun K hK=>?_)
    go_simp
    (go_at_call 152; refine (CF.out _ (HN.out.next (R5.out.next hH.2.2.2).b)).mono ?_; rintro e x7 ⟨i,rfl,hFi,hb⟩; have hin:¬ i < 0:=by rcases hFi.out with ⟨h,_⟩ | ⟨j,hj,rfl,_⟩; exact (hgm h).elim; omega)
    (try simp only [])
    refine hK.out _ _ ?_ (fun hH'=>?_)
    ·(try dsimp only)
     exact ⟨y0_ (R5.out.next (hH.2.2.2.trans (hb.mono hH.2.2.2.size))),(B5.out.next (hH.2.2.2.trans (hb.mono hH.2.2.2.size))).c4,(BH5.out.next (hH.2.2.2.trans (hb.mono hH.2.2.2.size))).c4,hH.2.2.2.trans (hb.mono hH.2.2.2.size)⟩
    clear hK K
    clear hH
    have hH:=hH'
    clear hH'
    clear hb hFi
    refine wLy ?_
    refine wTk 8 ?_
    refine wTk 9 ?_
    refine wTn 10 ?_
    refine wTn 11 ?_
    refine wTn 12 ?_
    refine wTn 13 ?_
   rotate_left
   all_goals
    refine wTk 14 ?_
    refine wTk 15 ?_
    refine wTk 16 ?_
    refine wTk 17 ?_
    refine wTk 18 ?_
    refine wTk 20 ?_
    refine wRd 19 (fun K hK=>?_)
    go_simp
    (go_at_call 131; refine (CJ.out _ (GH5.out.next hH.2.2.2).sib (G5.out.next hH.2.2.2).sib).mono ?_; rintro e x19 ⟨pj,qj,rfl,hb,hsj⟩; have SJ:Hid (zk_ x19 pj C.l):=hsj; clear hsj)
    (try simp only [])
    refine hK.out _ _ ?_ (fun hH'=>?_)
    ·(try dsimp only)
     exact ⟨y0_ (R5.out.next (hH.2.2.2.trans (hb.mono hH.2.2.2.size))),(B5.out.next (hH.2.2.2.trans (hb.mono hH.2.2.2.size))).c4,(BH5.out.next (hH.2.2.2.trans (hb.mono hH.2.2.2.size))).c4,hH.2.2.2.trans (hb.mono hH.2.2.2.size)⟩
    clear hK K
    clear hH
    have hH:=hH'
    clear hH'
    clear hb
    refine wLy ?_
    refine wRd 21 (fun K hK=>?_)
    go_simp
    (go_at_call 132; refine (xh_ qj vc pj vo C.l C.l C.a C.b C.c C.a C.b C.c true ⟨fun _=>oj_ _ _ _ _,fun _=>rfl⟩ _ hcl hcl SJ.out (G5.out.next hH.2.2.2).sib).mono ?_; rintro e x21 ⟨rfl,hb⟩)
    (try simp only [])
    refine hK.out _ _ ?_ (fun hH'=>?_)
    ·(try dsimp only)
     exact ⟨y0_ (R5.out.next (hH.2.2.2.trans (hb.mono hH.2.2.2.size))),(B5.out.next (hH.2.2.2.trans (hb.mono hH.2.2.2.size))).c4,(BH5.out.next (hH.2.2.2.trans (hb.mono hH.2.2.2.size))).c4,hH.2.2.2.trans (hb.mono hH.2.2.2.size)⟩
    clear hK K
    clear hH
    have hH:=hH'
    clear hH'
    clear hb
    refine wLy ?_
    refine wTk 22 ?_
    refine wTk 23 ?_
    refine wTk 24 ?_
    refine wTk 25 ?_
    refine wTk 26 ?_
    refine wRd 27 (fun K hK=>?_)
    go_simp
    (go_at_call 132; refine (xh_ q1 vc p1 vo H.l C.l H.a H.b H.c C.a C.b C.c false HNS _ hhl hcl (GH5.out.next hH.2.2.2).sib (G5.out.next hH.2.2.2).sib).mono ?_; rintro e x27 ⟨rfl,hb⟩)
    (try simp only [])
    refine hK.out _ _ ?_ (fun hH'=>?_)
    ·(try dsimp only)
     exact ⟨y0_ (R5.out.next (hH.2.2.2.trans (hb.mono hH.2.2.2.size))),(B5.out.next (hH.2.2.2.trans (hb.mono hH.2.2.2.size))).c4,(BH5.out.next (hH.2.2.2.trans (hb.mono hH.2.2.2.size))).c4,hH.2.2.2.trans (hb.mono hH.2.2.2.size)⟩
    clear hK K
    clear hH
    have hH:=hH'
    clear hH'
    clear hb
    refine wLy ?_
    refine wTk 28 ?_
    refine wDn ?_
    have BW:Hid (Below W5.heap.size W5 _):=hH.2.2.2
    clear hH
    go_wp2_with fail
    go_meet
    case rel=>exact ⟨rfl,R5.out.next BW.out,B5.out.next BW.out,G5.out.next BW.out⟩
  case rest=>
   obtain ⟨rfl,hr6,hb6,hg6⟩:=hcut
   generalize wc=W6 at *
   have R6:=hm_ hr6
   have B6:=hm_ hb6
   have G6:=hm_ hg6
   clear hr6 hb6 hg6 R5 B5 G5 BH5 GH5 CF CJ HNS
   have hbn:=HF.out.bnd
   have HID:=hm_ hid
   clear hid
   obtain ⟨b0,b1,b2,b3,b4,b5,b6⟩:=R6.out.x.c7
   cases pb
   ·have k0:W6.cell? ⟨gw,0,none⟩=some (.string ⟨#[106,111,105,110]⟩):=R6.out.c0
    go_upto_region 22 with fail
    clear b0 b1 b2 b3 b4 b5 b6 k0
    go_cut [152] from 145 to 152 (fun s152 wc=>s152=.bool false∧RW w wc [.int .i64 o.x.id,.int .i64 o.x.n,.int .i64 o.x.cut,.slice o.p0 o.ms.length o.c0,.slice o.p1 o.x.fd.length o.c1,.slice o.p2 o.su.length o.c2,.slice o.p3 o.un.length o.c3] gw ⟨(yq_ false).toArray⟩ C.k ⟨(objT (vvT C.a C.b C.c) C.l).toArray⟩∧Box wc b9 [.slice vo C.l.length vc,.int .i64 C.a,.int .i64 C.b,.int .i64 C.c]∧GRow (w.heap.size+2) wc vo (flat C.l))
    case first=>
     rcases HID.out with h | h | h
     focus
      have H0:Hid _:=h
      clear h
      have hcmp:(decide (C.a > o.x.n))=false:=by have:=HF.out.join rfl; rw [show o.x.id=_ from H0.out] at this; simp [comp] at this; simp; omega
      have hcm2:(decide (o.x.n < C.a))=false:=hcmp
     rotate_left
     focus
      have H0:Hid _:=h
      clear h
      have hcmp:(decide (C.b > o.x.n))=false:=by have:=HF.out.join rfl; rw [show o.x.id=_ from H0.out] at this; simp [comp] at this; simp; omega
      have hcm2:(decide (o.x.n < C.b))=false:=hcmp
     rotate_left
     focus
      have H0:Hid _:=h
      clear h
      have hcmp:(decide (C.c > o.x.n))=false:=by have:=HF.out.join rfl; rw [show o.x.id=_ from H0.out] at this; simp [comp] at this; simp; omega
      have hcm2:(decide (o.x.n < C.c))=false:=hcmp
     rotate_left
     all_goals
      refine wp_region_held_drew (S:=(fun w'=>w'.cell? ⟨w.heap.size,0,none⟩=some (.int .i64 o.x.id)∧w'.cell? ⟨w.heap.size,1,none⟩=some (.int .i64 o.x.n)∧(w'.cell? ⟨b9,0,none⟩=some (.slice vo C.l.length vc)∧w'.cell? ⟨b9,1,none⟩=some (.int .i64 C.a)∧w'.cell? ⟨b9,2,none⟩=some (.int .i64 C.b)∧w'.cell? ⟨b9,3,none⟩=some (.int .i64 C.c)))) (by kernel_rfl) ?_ (fun hH=>?_)
      ·(try dsimp only)
       exact ⟨((R6.out.next (zc_ _)).x.c7).1,((R6.out.next (zc_ _)).x.c7).2.1,(B6.out.next (zc_ _)).c4⟩
      refine wTk 0 ?_
      refine wTk 1 ?_
      refine wTk 2 ?_
      refine wpAnyH_take (i:=3) (v:=?_) rfl (by kernel_rfl) (by kernel_rfl) (by kernel_rfl) (fun _ _ _ h=>h) (Or.inl ⟨by rfl,?_⟩) (by assumption) ?_
      rotate_left
      ·intro w' hSw
       (try dsimp only at hSw)
       have h0:=H0.out
       go_simp
       all_goals (try with_reducible rfl)
      refine wLy ?_
      refine wTk 4 ?_
      refine wTk 5 ?_
      refine wTk 6 ?_
      refine wTk 7 ?_
      refine wDn ?_
      clear hH
      go_wp2_with fail
      go_meet
      case rel=>exact ⟨rfl,R6.out.next (zc_ _),B6.out.next (zc_ _),G6.out.next (zc_ _)⟩
    case rest=>
     obtain ⟨rfl,hr9,hb9,hg9⟩:=hcut
     generalize wc=W9 at *
     obtain ⟨X1,hX1⟩:∃ X1,X1=o.x:=⟨_,rfl⟩
     obtain ⟨pf,hpf⟩:∃ pf,pf=o.p1:=⟨_,rfl⟩
     obtain ⟨cf,hcf⟩:∃ cf,cf=o.c1:=⟨_,rfl⟩
     have R9:Hid (RW w W9 [.int .i64 X1.id,.int .i64 X1.n,.int .i64 X1.cut,.slice o.p0 o.ms.length o.c0,.slice pf X1.fd.length cf,.slice o.p2 o.su.length o.c2,.slice o.p3 o.un.length o.c3] gw ⟨(yq_ false).toArray⟩ C.k ⟨(objT (vvT C.a C.b C.c) C.l).toArray⟩):=by rw [hX1,hpf,hcf]; exact hr9
     have B9:=hm_ hb9
     have G9:=hm_ hg9
     have HX:Hid ({ X1 with cs:=setC C o.x.cs }=nxt o.x (false,C)∧X1.cs=o.x.cs):=by rw [hX1]; exact ⟨rfl,rfl⟩
     have HKF:Hid (X1.fd.length≤cf):=by rw [hX1,hcf]; exact HN.out.le.2.1
     have FR:Hid (∀ Wf,Below w.heap.size w Wf→Kept (w.heap.size+2) W9 Wf→GRow lo Wf pf (zm_ X1.fd)):=fun Wf hB _=>by rw [hX1,hpf]; exact (HN.out.next hB).r1
     have FN:Hid (∀ b,b < w.heap.size→NoX o b→∀ y,pf=some y→zm_ X1.fd≠[]→y.block≠b):=fun b _ hx=>by rw [hX1,hpf]; exact hx.2.1
     clear hr9 hb9 hg9 R6 B6 G6 hX1 hpf hcf
     go_upto_region 24 with fail
     have CT:Hid (∀ W,Below w.heap.size w W→GRow (w.heap.size+2) W vo (flat C.l)→GRow lo W pf (zm_ X1.fd)→Calls Tryz.prog 103 #[.agg #[.int .i64 X1.id,.int .i64 X1.n,.int .i64 X1.cut,.slice o.p0 o.ms.length o.c0,.slice pf X1.fd.length cf,.slice o.p2 o.su.length o.c2,.slice o.p3 o.un.length o.c3],.string C.k,.agg #[.slice vo C.l.length vc,.int .i64 C.a,.int .i64 C.b,.int .i64 C.c]] W fun e w'=>∃ p' c',e=.returned (.agg #[.int .i64 X1.id,.int .i64 X1.n,.int .i64 X1.cut,.slice p' (setM ⟨C,vo,vc⟩ o.ms).length c',.slice pf X1.fd.length cf,.slice o.p2 o.su.length o.c2,.slice o.p3 o.un.length o.c3])∧GRow W.heap.size w' p' (zn_ (setM ⟨C,vo,vc⟩ o.ms))∧(setM ⟨C,vo,vc⟩ o.ms).length≤c'∧Below W.heap.size W w'):=fun W hB hv hf=>by
      refine (wv_ lo { o with x:=X1,p1:=pf,c1:=cf } C vo vc W (Nat.le_trans hlo hB.size) (by show o.ms.length≤100000; omega) (sa_ HN.out hB HX.out.2 hf HKF.out) (hv.weak (by omega)) hvc).mono ?_
      rintro e w' ⟨p',c',rfl,_,hg,hc,hb⟩
      exact ⟨p',c',rfl,hg,hc,hb⟩
     refine wp_region_held_drew (S:=(fun w'=>(w'.cell? ⟨w.heap.size,0,none⟩=some (.int .i64 X1.id)∧w'.cell? ⟨w.heap.size,1,none⟩=some (.int .i64 X1.n)∧w'.cell? ⟨w.heap.size,2,none⟩=some (.int .i64 X1.cut)∧w'.cell? ⟨w.heap.size,3,none⟩=some (.slice o.p0 o.ms.length o.c0)∧w'.cell? ⟨w.heap.size,4,none⟩=some (.slice pf X1.fd.length cf)∧w'.cell? ⟨w.heap.size,5,none⟩=some (.slice o.p2 o.su.length o.c2)∧w'.cell? ⟨w.heap.size,6,none⟩=some (.slice o.p3 o.un.length o.c3)∧w'.cell? ⟨gw,1,none⟩=some (.string C.k))∧(w'.cell? ⟨b9,0,none⟩=some (.slice vo C.l.length vc)∧w'.cell? ⟨b9,1,none⟩=some (.int .i64 C.a)∧w'.cell? ⟨b9,2,none⟩=some (.int .i64 C.b)∧w'.cell? ⟨b9,3,none⟩=some (.int .i64 C.c)))) (by kernel_rfl) ?_ (fun hH=>?_)
     ·(try dsimp only)
      exact wq_ (R9.out.next (zc_ _)).x (R9.out.next (zc_ _)).c1 (B9.out.next (zc_ _))
     have BW:Hid (Below W9.heap.size W9 W9.drew):=zc_ _
     refine wTk 0 ?_
     refine wTk 1 ?_
     refine wTk 2 ?_
     refine wTk 3 ?_
     refine wTk 4 ?_
     generalize W9.drew=wd at *
     refine wRd 5 (fun K hK=>?_)
     go_simp
     go_at_call 103
     refine (CT.out _ (R9.out.next BW.out).b (G9.out.next BW.out) (FR.out _ (R9.out.next BW.out).b (yt_ BW.out))).mono ?_
     rintro e x0 ⟨p',c',rfl,hg,hc,hb⟩
     (try simp only [])
     have HGP:Hid (GRow (w.heap.size+2) x0 p' (zn_ (setM ⟨C,vo,vc⟩ o.ms))):=hg.weak (Nat.le_trans R9.out.lt.1 BW.out.size)
     have HCP:=hm_ hc
     replace BW:=ze_ BW hb
     clear hg hc hb CT
     refine wHk hK (wq_ (R9.out.next BW.out).x (R9.out.next BW.out).c1 (B9.out.next BW.out)) ?_
     clear hK K hH
     intro hH
     obtain ⟨a0,a1,a2,a3,a4,a5,a6⟩:=(R9.out.z.next BW.out).c7
     obtain ⟨f0,f1,f2,f3,f4,f5,f6⟩:=(R9.out.z.next BW.out).f7
     have hgz:gw≠w.heap.size+1:=xT_ (R9.out.z.next BW.out) (i:=1) (by simp) rfl (R9.out.next BW.out).c1
     have hz9:=HL4.out
     have KX:Hid (Box ((((((((x0.setCell ⟨w.heap.size+1,0,none⟩ (.int .i64 X1.id)).setCell ⟨w.heap.size+1,1,none⟩ (.int .i64 X1.n)).setCell ⟨w.heap.size+1,2,none⟩ (.int .i64 X1.cut)).setCell ⟨w.heap.size+1,3,none⟩ (.slice p' (setM ⟨C,vo,vc⟩ o.ms).length c')).setCell ⟨w.heap.size+1,4,none⟩ (.slice pf X1.fd.length cf)).setCell ⟨w.heap.size+1,5,none⟩ (.slice o.p2 o.su.length o.c2)).setCell ⟨w.heap.size+1,6,none⟩ (.slice o.p3 o.un.length o.c3))) w.heap.size [.int .i64 X1.id,.int .i64 X1.n,.int .i64 X1.cut,.slice o.p0 o.ms.length o.c0,.slice pf X1.fd.length cf,.slice o.p2 o.su.length o.c2,.slice o.p3 o.un.length o.c3]):=(R9.out.next BW.out).x.o7 (by omega)
     have KG:Hid (((((((((x0.setCell ⟨w.heap.size+1,0,none⟩ (.int .i64 X1.id)).setCell ⟨w.heap.size+1,1,none⟩ (.int .i64 X1.n)).setCell ⟨w.heap.size+1,2,none⟩ (.int .i64 X1.cut)).setCell ⟨w.heap.size+1,3,none⟩ (.slice p' (setM ⟨C,vo,vc⟩ o.ms).length c')).setCell ⟨w.heap.size+1,4,none⟩ (.slice pf X1.fd.length cf)).setCell ⟨w.heap.size+1,5,none⟩ (.slice o.p2 o.su.length o.c2)).setCell ⟨w.heap.size+1,6,none⟩ (.slice o.p3 o.un.length o.c3))).cell? ⟨gw,1,none⟩=some (.string C.k)):=qH_ (R9.out.next BW.out).c1 hgz
     have K9:Hid (Box ((((((((x0.setCell ⟨w.heap.size+1,0,none⟩ (.int .i64 X1.id)).setCell ⟨w.heap.size+1,1,none⟩ (.int .i64 X1.n)).setCell ⟨w.heap.size+1,2,none⟩ (.int .i64 X1.cut)).setCell ⟨w.heap.size+1,3,none⟩ (.slice p' (setM ⟨C,vo,vc⟩ o.ms).length c')).setCell ⟨w.heap.size+1,4,none⟩ (.slice pf X1.fd.length cf)).setCell ⟨w.heap.size+1,5,none⟩ (.slice o.p2 o.su.length o.c2)).setCell ⟨w.heap.size+1,6,none⟩ (.slice o.p3 o.un.length o.c3))) b9 [.slice vo C.l.length vc,.int .i64 C.a,.int .i64 C.b,.int .i64 C.c]):=(B9.out.next BW.out).o7 (by omega)
     have KZ:Hid (Box ((((((((x0.setCell ⟨w.heap.size+1,0,none⟩ (.int .i64 X1.id)).setCell ⟨w.heap.size+1,1,none⟩ (.int .i64 X1.n)).setCell ⟨w.heap.size+1,2,none⟩ (.int .i64 X1.cut)).setCell ⟨w.heap.size+1,3,none⟩ (.slice p' (setM ⟨C,vo,vc⟩ o.ms).length c')).setCell ⟨w.heap.size+1,4,none⟩ (.slice pf X1.fd.length cf)).setCell ⟨w.heap.size+1,5,none⟩ (.slice o.p2 o.su.length o.c2)).setCell ⟨w.heap.size+1,6,none⟩ (.slice o.p3 o.un.length o.c3))) (w.heap.size+1) [.int .i64 X1.id,.int .i64 X1.n,.int .i64 X1.cut,.slice p' (setM ⟨C,vo,vc⟩ o.ms).length c',.slice pf X1.fd.length cf,.slice o.p2 o.su.length o.c2,.slice o.p3 o.un.length o.c3]):=(R9.out.z.next BW.out).s7
     have KP:Hid (GRow (w.heap.size+2) ((((((((x0.setCell ⟨w.heap.size+1,0,none⟩ (.int .i64 X1.id)).setCell ⟨w.heap.size+1,1,none⟩ (.int .i64 X1.n)).setCell ⟨w.heap.size+1,2,none⟩ (.int .i64 X1.cut)).setCell ⟨w.heap.size+1,3,none⟩ (.slice p' (setM ⟨C,vo,vc⟩ o.ms).length c')).setCell ⟨w.heap.size+1,4,none⟩ (.slice pf X1.fd.length cf)).setCell ⟨w.heap.size+1,5,none⟩ (.slice o.p2 o.su.length o.c2)).setCell ⟨w.heap.size+1,6,none⟩ (.slice o.p3 o.un.length o.c3))) p' (zn_ (setM ⟨C,vo,vc⟩ o.ms))):=w1_ (by omega) HGP.out
     have KV:Hid (GRow (w.heap.size+2) ((((((((x0.setCell ⟨w.heap.size+1,0,none⟩ (.int .i64 X1.id)).setCell ⟨w.heap.size+1,1,none⟩ (.int .i64 X1.n)).setCell ⟨w.heap.size+1,2,none⟩ (.int .i64 X1.cut)).setCell ⟨w.heap.size+1,3,none⟩ (.slice p' (setM ⟨C,vo,vc⟩ o.ms).length c')).setCell ⟨w.heap.size+1,4,none⟩ (.slice pf X1.fd.length cf)).setCell ⟨w.heap.size+1,5,none⟩ (.slice o.p2 o.su.length o.c2)).setCell ⟨w.heap.size+1,6,none⟩ (.slice o.p3 o.un.length o.c3))) vo (flat C.l)):=w1_ (by omega) (G9.out.next BW.out)
     have KB:Hid (Below w.heap.size w ((((((((x0.setCell ⟨w.heap.size+1,0,none⟩ (.int .i64 X1.id)).setCell ⟨w.heap.size+1,1,none⟩ (.int .i64 X1.n)).setCell ⟨w.heap.size+1,2,none⟩ (.int .i64 X1.cut)).setCell ⟨w.heap.size+1,3,none⟩ (.slice p' (setM ⟨C,vo,vc⟩ o.ms).length c')).setCell ⟨w.heap.size+1,4,none⟩ (.slice pf X1.fd.length cf)).setCell ⟨w.heap.size+1,5,none⟩ (.slice o.p2 o.su.length o.c2)).setCell ⟨w.heap.size+1,6,none⟩ (.slice o.p3 o.un.length o.c3)))):=vC_ (R9.out.next BW.out).b (by omega)
     have KF:Hid (GRow lo ((((((((x0.setCell ⟨w.heap.size+1,0,none⟩ (.int .i64 X1.id)).setCell ⟨w.heap.size+1,1,none⟩ (.int .i64 X1.n)).setCell ⟨w.heap.size+1,2,none⟩ (.int .i64 X1.cut)).setCell ⟨w.heap.size+1,3,none⟩ (.slice p' (setM ⟨C,vo,vc⟩ o.ms).length c')).setCell ⟨w.heap.size+1,4,none⟩ (.slice pf X1.fd.length cf)).setCell ⟨w.heap.size+1,5,none⟩ (.slice o.p2 o.su.length o.c2)).setCell ⟨w.heap.size+1,6,none⟩ (.slice o.p3 o.un.length o.c3))) pf (zm_ X1.fd)):=FR.out _ KB.out (nH_ (by omega) (yt_ BW.out) (R9.out.lt.1))
     refine wRd 6 (fun K hK=>?_)
     go_simp
     (try simp only [])
     refine wHk hK (wq_ KX.out KG.out K9.out) ?_
     clear hK K hH
     intro hH
     generalize (((((((x0.setCell ⟨w.heap.size+1,0,none⟩ (.int .i64 X1.id)).setCell ⟨w.heap.size+1,1,none⟩ (.int .i64 X1.n)).setCell ⟨w.heap.size+1,2,none⟩ (.int .i64 X1.cut)).setCell ⟨w.heap.size+1,3,none⟩ (.slice p' (setM ⟨C,vo,vc⟩ o.ms).length c')).setCell ⟨w.heap.size+1,4,none⟩ (.slice pf X1.fd.length cf)).setCell ⟨w.heap.size+1,5,none⟩ (.slice o.p2 o.su.length o.c2)).setCell ⟨w.heap.size+1,6,none⟩ (.slice o.p3 o.un.length o.c3))=W8 at *
     clear a0 a1 a2 a3 a4 a5 a6 f0 f1 f2 f3 f4 f5 f6
     refine wRd 7 (fun K hK=>?_)
     go_simp
     (try simp only [])
     refine wHk hK (wq_ KX.out KG.out K9.out) ?_
     clear hK K hH
     intro hH
     refine wDn ?_
     clear hH
     obtain ⟨a0,a1,a2,a3,a4,a5,a6⟩:=KZ.out.c7
     go_wp2_with fail
     refine bodyPost_ret (v:=.tuple #[.agg #[.int .i64 X1.id,.int .i64 X1.n,.int .i64 X1.cut,.slice p' (setM ⟨C,vo,vc⟩ o.ms).length c',.slice pf X1.fd.length cf,.slice o.p2 o.su.length o.c2,.slice o.p3 o.un.length o.c3],.bool true]) (by simp [results,Tryz.results159,go_sem,a0,a1,a2,a3,a4,a5,a6]) rfl ?_
     exact ⟨⟨{ X1 with cs:=setC C o.x.cs },setM ⟨C,vo,vc⟩ o.ms,p',c',pf,cf,o.p2,o.c2,o.p3,o.c3,o.su,o.un⟩,rfl,vS_ HN.out KB.out (KV.out.weak (by omega)) hvc (KP.out.weak (by omega)) HCP.out rfl KF.out HKF.out (HN.out.next KB.out).r3 HN.out.le.2.2.2,HX.out.1,rfl,rfl,fun b hb hx=>r6_ (l0:=w.heap.size+2) (by omega) hx KV.out KP.out (FN.out b hb hx),KB.out⟩
   ·have k0:W6.cell? ⟨gw,0,none⟩=some (.string ⟨#[112,117,116]⟩):=R6.out.c0
    go_upto_region 17 with fail
    refine zQ_ (fun W=>RW w W (nL o) gw ⟨(yq_ true).toArray⟩ C.k ⟨(objT (vvT C.a C.b C.c) C.l).toArray⟩∧Box W b9 [.slice vo C.l.length vc,.int .i64 C.a,.int .i64 C.b,.int .i64 C.c]∧GRow (w.heap.size+2) W vo (flat C.l)∧Box W W6.heap.size [.int .i64 o.x.id,.int .i64 (o.x.n+1)]∧b9 < W6.heap.size) ⟨R6.out.next (zb_ _ _),B6.out.next (zb_ _ _),G6.out.next (zb_ _ _),zo_,B6.out.lt⟩ (fun W7 hI=>?_)
    clear b0 b1 b2 b3 b4 b5 b6 k0 R6 B6 G6
    generalize W6.heap.size=b12 at *
    have R7:=hm_ hI.1
    have B7:=hm_ hI.2.1
    have G7:=hm_ hI.2.2.1
    have D7:=hm_ hI.2.2.2.1
    have HL7:Hid (b9 < b12):=hI.2.2.2.2
    clear hI
    have CF2:Hid (∀ lo2 W,GRow lo2 W vo (flat C.l)→Calls Tryz.prog 163 #[.agg #[.slice vo C.l.length vc,.int .i64 C.a,.int .i64 C.b,.int .i64 C.c],.agg #[.int .i64 o.x.id,.int .i64 (o.x.n+1)]] W fun e w'=>∃ k:Int,e=.returned (.int .i64 k)∧¬ k < 0∧Below W.heap.size W w'):=fun lo2 W hg=>by
     refine (sx_ vc vo C.l C.a C.b C.c o.x.id (o.x.n+1) W hcl hg.sib).mono ?_
     rintro e w' ⟨k,rfl,hk,_,hb⟩
     have:=hk.out (HF.out.put rfl).1
     exact ⟨k,rfl,by omega,hb⟩
    go_cut [125] from 112 to 125 (fun s125 wc=>s125=.bool false∧RW w wc [.int .i64 o.x.id,.int .i64 o.x.n,.int .i64 o.x.cut,.slice o.p0 o.ms.length o.c0,.slice o.p1 o.x.fd.length o.c1,.slice o.p2 o.su.length o.c2,.slice o.p3 o.un.length o.c3] gw ⟨(yq_ true).toArray⟩ C.k ⟨(objT (vvT C.a C.b C.c) C.l).toArray⟩∧Box wc b9 [.slice vo C.l.length vc,.int .i64 C.a,.int .i64 C.b,.int .i64 C.c]∧GRow (w.heap.size+2) wc vo (flat C.l)∧Box wc b12 [.int .i64 o.x.id,.int .i64 (o.x.n+1)])
    case first=>
     rcases HID.out with h | h | h
     focus
      have H0:Hid _:=h
      clear h
      have hcmp:C.a=o.x.n+1:=by have:=(HF.out.put rfl).2; rw [show o.x.id=_ from H0.out] at this; simpa [comp] using this
      have hq1:(C.a == o.x.n+1)=true:=by simp [hcmp]
      have hq2:(C.a != o.x.n+1)=false:=by simp [hcmp]
     rotate_left
     focus
      have H0:Hid _:=h
      clear h
      have hcmp:C.b=o.x.n+1:=by have:=(HF.out.put rfl).2; rw [show o.x.id=_ from H0.out] at this; simpa [comp] using this
      have hq1:(C.b == o.x.n+1)=true:=by simp [hcmp]
      have hq2:(C.b != o.x.n+1)=false:=by simp [hcmp]
     rotate_left
     focus
      have H0:Hid _:=h
      clear h
      have hcmp:C.c=o.x.n+1:=by have:=(HF.out.put rfl).2; rw [show o.x.id=_ from H0.out] at this; simpa [comp] using this
      have hq1:(C.c == o.x.n+1)=true:=by simp [hcmp]
      have hq2:(C.c != o.x.n+1)=false:=by simp [hcmp]
     rotate_left
     all_goals
      clear hcmp
      refine wp_region_held_drew (S:=(fun w'=>w'.cell? ⟨w.heap.size,0,none⟩=some (.int .i64 o.x.id)∧(w'.cell? ⟨b9,0,none⟩=some (.slice vo C.l.length vc)∧w'.cell? ⟨b9,1,none⟩=some (.int .i64 C.a)∧w'.cell? ⟨b9,2,none⟩=some (.int .i64 C.b)∧w'.cell? ⟨b9,3,none⟩=some (.int .i64 C.c))∧(w'.cell? ⟨b12,0,none⟩=some (.int .i64 o.x.id)∧w'.cell? ⟨b12,1,none⟩=some (.int .i64 (o.x.n+1))))) (by kernel_rfl) ?_ (fun hH=>?_)
      ·(try dsimp only)
       exact pZ_ (R7.out.next (zc_ _)).x (B7.out.next (zc_ _)) (D7.out.next (zc_ _))
      have BW:Hid (Below W7.heap.size W7 W7.drew):=zc_ _
      refine wTk 0 ?_
      refine wTk 1 ?_
      refine wRd 2 (fun K hK=>?_)
      go_simp
      (go_at_call 163; refine (CF2.out _ _ (G7.out.next BW.out)).mono ?_; rintro e x2 ⟨k,rfl,hk,hb⟩; replace BW:=ze_ BW hb; clear hb)
      (try simp only [])
      refine wHk hK (pZ_ (R7.out.next BW.out).x (B7.out.next BW.out) (D7.out.next BW.out)) ?_
      clear hK K hH
      intro hH
      refine wTk 3 ?_
      refine wTk 4 ?_
      refine wTk 5 ?_
      refine wTk 6 ?_
      refine wTk 7 ?_
      refine wpAnyH_take (i:=8) (v:=?_) rfl (by kernel_rfl) (by kernel_rfl) (by kernel_rfl) (fun _ _ _ h=>h) (Or.inl ⟨by rfl,?_⟩) (by assumption) ?_
      rotate_left
      ·intro w' hSw
       (try dsimp only at hSw)
       have h0:=H0.out
       go_simp
       all_goals (try with_reducible rfl)
      refine wLy ?_
      refine wTk 9 ?_
      refine wTk 10 ?_
      refine wTk 11 ?_
      refine wTk 12 ?_
      refine wTk 13 ?_
      refine wDn ?_
      clear hH
      go_wp2_with fail
      go_meet
      case rel=>exact ⟨rfl,R7.out.next BW.out,B7.out.next BW.out,G7.out.next BW.out,D7.out.next BW.out⟩
    case rest=>
     obtain ⟨rfl,hr8,hb8,hg8,hd8⟩:=hcut
     generalize wc=W8 at *
     clear R7 B7 G7 D7 CF2
     have R8:=hm_ hr8
     have B8:=hm_ hb8
     have G8:=hm_ hg8
     have D8:=hm_ hd8
     clear hr8 hb8 hg8 hd8
     obtain ⟨b0,b1,b2,b3,b4,b5,b6⟩:=R8.out.x.c7
     obtain ⟨f0,f1,f2,f3,f4,f5,f6⟩:=R8.out.x.f7
     go_upto_region 20 with fail
     refine zQ_ (fun W=>RW w W [.int .i64 o.x.id,.int .i64 (o.x.n+1),.int .i64 o.x.cut,.slice o.p0 o.ms.length o.c0,.slice o.p1 o.x.fd.length o.c1,.slice o.p2 o.su.length o.c2,.slice o.p3 o.un.length o.c3] gw ⟨(yq_ true).toArray⟩ C.k ⟨(objT (vvT C.a C.b C.c) C.l).toArray⟩∧Box W b9 [.slice vo C.l.length vc,.int .i64 C.a,.int .i64 C.b,.int .i64 C.c]∧GRow (w.heap.size+2) W vo (flat C.l)∧Box W b12 [.int .i64 o.x.id,.int .i64 (o.x.n+1)]) (by
      have hl4:=HL4.out
      have hl7:=HL7.out
      refine ⟨?_,B8.out.oth (by omega),G8.out.keep (zh_ (by omega)),D8.out.oth (by omega)⟩
      have:=R8.out.at (i:=1) (u:=.int .i64 (o.x.n+1)) (by simp)
      simpa using this) (fun W5 hI=>?_)
     clear b0 b1 b2 b3 b4 b5 b6 f0 f1 f2 f3 f4 f5 f6 R8 B8 G8 D8
     have R5:=hm_ hI.1
     have B5:=hm_ hI.2.1
     have G5:=hm_ hI.2.2.1
     have D5:=hm_ hI.2.2.2
     clear hI
     refine oe_ (fun KL hKL=>?_)
     go_cut [125] from 131 to 142 (fun s125 wc=>s125=.bool false∧∃ (pf:Option Addr) (cf:Nat),RW w wc [.int .i64 o.x.id,.int .i64 (o.x.n+1),.int .i64 o.x.cut,.slice o.p0 o.ms.length o.c0,.slice pf (o.x.fd.length+1) cf,.slice o.p2 o.su.length o.c2,.slice o.p3 o.un.length o.c3] gw ⟨(yq_ true).toArray⟩ C.k ⟨(objT (vvT C.a C.b C.c) C.l).toArray⟩∧Box wc b9 [.slice vo C.l.length vc,.int .i64 C.a,.int .i64 C.b,.int .i64 C.c]∧GRow (w.heap.size+2) wc vo (flat C.l)∧(GRow (w.heap.size+2) wc pf (zm_ (o.x.fd++[⟨o.x.id,o.x.n+1,C.k⟩]))∧o.x.fd.length+1≤cf))
     case first=>
      refine wp_region_held_drew (S:=(fun w'=>(w'.cell? ⟨b12,0,none⟩=some (.int .i64 o.x.id)∧w'.cell? ⟨b12,1,none⟩=some (.int .i64 (o.x.n+1)))∧w'.cell? ⟨gw,1,none⟩=some (.string C.k))) (by kernel_rfl) ?_ (fun hH=>?_)
      ·(try dsimp only)
       exact zK_ (D5.out.next (zc_ _)) (R5.out.next (zc_ _)).c1
      have BW:Hid (Below W5.heap.size W5 W5.drew):=zc_ _
      refine wTk 1 ?_
      refine wTk 4 ?_
      refine wTk 5 ?_
      refine wTk 6 ?_
      refine wTk 7 ?_
      refine wTk 8 ?_
      generalize W5.drew=wd at *
      refine wpAnyH_ready (rs:=[0,2,9]) (by kernel_rfl) (by simp) ?_
      refine AllReadyH.cons rfl (fun K hK=>?_) (AllReadyH.cons rfl (fun K hK=>?_) (AllReadyH.cons rfl (fun K hK=>?_) AllReadyH.nil))
      ·refine wLy ?_
       go_simp
       (try simp only [])
       have OW:Hid (OwnG (wd.alloc (.cells #[] 52)) 52 3 (.slice (some ⟨wd.heap.size,0,none⟩) 0 0) 0 [] W5.heap.size):=OwnG.lit BW.out.size
       replace BW:=ze_ BW (zb_ wd (.cells #[] 52))
       refine wHk hK (zK_ (D5.out.next BW.out) (R5.out.next BW.out).c1) ?_
       clear hK K hH
       intro hH
       generalize wd.alloc (.cells #[] 52)=x0 at *
       generalize wd.heap.size=g0 at *
       refine wpAnyH_ready (rs:=[2,9]) (by kernel_rfl) (by simp) ?_
       refine AllReadyH.cons rfl (fun K hK=>?_) (AllReadyH.cons rfl (fun K hK=>?_) AllReadyH.nil)
       ·obtain ⟨b0,b1,b2,b3,b4,b5,b6⟩:=(R5.out.x.next BW.out).c7
        refine wLy ?_
        go_simp
        (try simp only [])
        refine wHk hK (zK_ (D5.out.next BW.out) (R5.out.next BW.out).c1) ?_
        clear hK K hH
        intro hH
        clear b0 b1 b2 b3 b4 b5 b6
        refine wpAnyH_ready (rs:=[3,9]) (by kernel_rfl) (by simp) ?_
        refine AllReadyH.cons rfl (fun K hK=>?_) (AllReadyH.cons rfl (fun K hK=>?_) AllReadyH.nil)
        focus
         refine wLy ?_
         rw [if_pos (by rfl)]
         refine zx_ elE (.tmp 131) (.tmp 133) rfl (.slice (some ⟨g0,0,none⟩) 0 0) 0 [] W5.heap.size o.x.fd.length rfl OW.out BW.out.size o.p1 o.x.fd.length o.c1 (zm_ o.x.fd) rfl (zO_ _) (zu_ _) lo (HN.out.next (R5.out.next BW.out).b).r1 (by omega) (by omega) ?_
         intro v3 c3 x1 hO3 hG3 hS3
         replace BW:Hid (Below W5.heap.size W5 x1):=BW.out.trans (hG3.below BW.out.size OW.out.ge)
         replace OW:Hid (OwnG x1 52 3 (.slice v3 o.x.fd.length c3) o.x.fd.length (zm_ o.x.fd) W5.heap.size):=by show OwnG _ _ _ _ _ _ _; simpa using hO3
         clear hO3 hG3 hS3
         refine wHk hK (zK_ (D5.out.next BW.out) (R5.out.next BW.out).c1) ?_
         clear hK K hH
         intro hH
         refine wRd 9 (fun K hK=>?_)
         go_simp
         (try simp only [])
         have LT:Hid (GRow 0 (x1.alloc (.cells #[.int .i64 o.x.id,.int .i64 (o.x.n+1),.string C.k] 52)) (some ⟨x1.heap.size,0,none⟩) (zm_ [⟨o.x.id,o.x.n+1,C.k⟩])):=yz_
         have GL:Hid (x1.heap.size < (x1.alloc (.cells #[.int .i64 o.x.id,.int .i64 (o.x.n+1),.string C.k] 52)).heap.size):=z7_
         have NE:Hid ((Value.slice v3 o.x.fd.length c3).ownBlock≠some x1.heap.size):=fun e=>by have:=(OW.out.lt _ e).2; omega
         replace OW:Hid _:=OW.out.next (zb_ _ (.cells #[.int .i64 o.x.id,.int .i64 (o.x.n+1),.string C.k] 52))
         replace BW:=ze_ BW (zb_ x1 (.cells #[.int .i64 o.x.id,.int .i64 (o.x.n+1),.string C.k] 52))
         refine wHk hK (zK_ (D5.out.next BW.out) (R5.out.next BW.out).c1) ?_
         clear hK K hH
         intro hH
         generalize x1.alloc (.cells #[.int .i64 o.x.id,.int .i64 (o.x.n+1),.string C.k] 52)=x2 at *
         generalize x1.heap.size=gl at *
        rotate_left
        focus
         refine wLy ?_
         go_simp
         (try simp only [])
         have LT:Hid (GRow 0 (x0.alloc (.cells #[.int .i64 o.x.id,.int .i64 (o.x.n+1),.string C.k] 52)) (some ⟨x0.heap.size,0,none⟩) (zm_ [⟨o.x.id,o.x.n+1,C.k⟩])):=yz_
         have GL:Hid (x0.heap.size < (x0.alloc (.cells #[.int .i64 o.x.id,.int .i64 (o.x.n+1),.string C.k] 52)).heap.size):=z7_
         have NE:Hid ((Value.slice (some ⟨g0,0,none⟩) 0 0).ownBlock≠some x0.heap.size):=fun e=>by have:=(OW.out.lt _ e).2; omega
         replace OW:Hid _:=OW.out.next (zb_ _ (.cells #[.int .i64 o.x.id,.int .i64 (o.x.n+1),.string C.k] 52))
         replace BW:=ze_ BW (zb_ x0 (.cells #[.int .i64 o.x.id,.int .i64 (o.x.n+1),.string C.k] 52))
         refine wHk hK (zK_ (D5.out.next BW.out) (R5.out.next BW.out).c1) ?_
         clear hK K hH
         intro hH
         generalize x0.alloc (.cells #[.int .i64 o.x.id,.int .i64 (o.x.n+1),.string C.k] 52)=x1 at *
         generalize x0.heap.size=gl at *
         refine wRd 3 (fun K hK=>?_)
         rw [if_pos (by rfl)]
         refine zx_ elE (.tmp 131) (.tmp 133) rfl (.slice (some ⟨g0,0,none⟩) 0 0) 0 [] W5.heap.size o.x.fd.length rfl OW.out BW.out.size o.p1 o.x.fd.length o.c1 (zm_ o.x.fd) rfl (zO_ _) (zu_ _) lo (HN.out.next (R5.out.next BW.out).b).r1 (by omega) (by omega) ?_
         intro v3 c3 x2 hO3 hG3 hS3
         replace LT:Hid (GRow 0 _ (some ⟨gl,0,none⟩) (zm_ [⟨o.x.id,o.x.n+1,C.k⟩])):=LT.out.gro hG3 (fun k hk x hx _ e=>by cases hx; exact NE.out (by rw [hk]; exact congrArg some e.symm))
         replace NE:Hid _:=hG3.ne GL.out NE.out
         replace GL:Hid _:=Nat.lt_of_lt_of_le GL.out hG3.size
         replace BW:Hid (Below W5.heap.size W5 x2):=BW.out.trans (hG3.below BW.out.size OW.out.ge)
         replace OW:Hid (OwnG x2 52 3 (.slice v3 o.x.fd.length c3) o.x.fd.length (zm_ o.x.fd) W5.heap.size):=by show OwnG _ _ _ _ _ _ _; simpa using hO3
         clear hO3 hG3 hS3
         refine wHk hK (zK_ (D5.out.next BW.out) (R5.out.next BW.out).c1) ?_
         clear hK K hH
         intro hH
        rotate_left
        all_goals
         refine wRd 10 (fun K hK=>?_)
         rw [if_pos (by rfl)]
         refine zx_ elE (.tmp 134) (.tmp 140) rfl (.slice v3 o.x.fd.length c3) o.x.fd.length (zm_ o.x.fd) W5.heap.size (o.x.fd.length+1) rfl OW.out BW.out.size (some ⟨gl,0,none⟩) 1 1 (zm_ [⟨o.x.id,o.x.n+1,C.k⟩]) rfl rfl (zu_ _) 0 LT.out (by omega) rfl ?_
         intro pf cf x3 hO8 hG8 hS8
         replace BW:Hid (Below W5.heap.size W5 x3):=BW.out.trans (hG8.below BW.out.size OW.out.ge)
         replace OW:=hm_ hO8
         clear hO8 hG8 hS8
         refine wHk hK (zK_ (D5.out.next BW.out) (R5.out.next BW.out).c1) ?_
         clear hK K hH
         intro hH
         refine wTk 11 ?_
         obtain ⟨b0,b1,b2,b3,b4,b5,b6⟩:=(R5.out.x.next BW.out).c7
         obtain ⟨f0,f1,f2,f3,f4,f5,f6⟩:=(R5.out.x.next BW.out).f7
         have hl4:=HL4.out
         have hl7:=HL7.out
         have R9:Hid (RW w (x3.setCell ⟨w.heap.size,4,none⟩ (.slice pf (o.x.fd.length+1) cf)) [.int .i64 o.x.id,.int .i64 (o.x.n+1),.int .i64 o.x.cut,.slice o.p0 o.ms.length o.c0,.slice pf (o.x.fd.length+1) cf,.slice o.p2 o.su.length o.c2,.slice o.p3 o.un.length o.c3] gw ⟨(yq_ true).toArray⟩ C.k ⟨(objT (vvT C.a C.b C.c) C.l).toArray⟩):=by
          have:=(R5.out.next BW.out).at (i:=4) (u:=.slice pf (o.x.fd.length+1) cf) (by simp)
          show RW _ _ _ _ _ _ _
          simpa using this
         have B9:Hid (Box (x3.setCell ⟨w.heap.size,4,none⟩ (.slice pf (o.x.fd.length+1) cf)) b9 [.slice vo C.l.length vc,.int .i64 C.a,.int .i64 C.b,.int .i64 C.c]):=(B5.out.next BW.out).oth (by omega)
         have D9:Hid (Box (x3.setCell ⟨w.heap.size,4,none⟩ (.slice pf (o.x.fd.length+1) cf)) b12 [.int .i64 o.x.id,.int .i64 (o.x.n+1)]):=(D5.out.next BW.out).oth (by omega)
         have G9:Hid (GRow (w.heap.size+2) (x3.setCell ⟨w.heap.size,4,none⟩ (.slice pf (o.x.fd.length+1) cf)) vo (flat C.l)):=(G5.out.next BW.out).keep (zh_ (by omega))
         have HF9:Hid (GRow (w.heap.size+2) (x3.setCell ⟨w.heap.size,4,none⟩ (.slice pf (o.x.fd.length+1) cf)) pf (zm_ (o.x.fd++[⟨o.x.id,o.x.n+1,C.k⟩]))∧o.x.fd.length+1≤cf):=by
          obtain ⟨pp,cc,ee,hcc,hgg⟩:=OW.out.grow
          cases ee
          refine ⟨?_,hcc⟩
          rw [z8_]
          exact (hgg.weak R5.out.lt.1).keep (zh_ (by omega))
         refine wRd 12 (fun K hK=>?_)
         go_simp
         (try simp only [])
         refine wHk hK (zK_ D9.out R9.out.c1) ?_
         clear hK K hH
         intro hH
         refine wDn ?_
         clear hH b0 b1 b2 b3 b4 b5 b6 f0 f1 f2 f3 f4 f5 f6
         go_wp2_with fail
         go_meet
         case rel=>exact ⟨rfl,pf,cf,R9.out,B9.out,G9.out,HF9.out⟩
       ·refine wLy ?_
        go_simp
        (try simp only [])
        have LT:Hid (GRow 0 (x0.alloc (.cells #[.int .i64 o.x.id,.int .i64 (o.x.n+1),.string C.k] 52)) (some ⟨x0.heap.size,0,none⟩) (zm_ [⟨o.x.id,o.x.n+1,C.k⟩])):=yz_
        have GL:Hid (x0.heap.size < (x0.alloc (.cells #[.int .i64 o.x.id,.int .i64 (o.x.n+1),.string C.k] 52)).heap.size):=z7_
        have NE:Hid ((Value.slice (some ⟨g0,0,none⟩) 0 0).ownBlock≠some x0.heap.size):=fun e=>by have:=(OW.out.lt _ e).2; omega
        replace OW:Hid _:=OW.out.next (zb_ _ (.cells #[.int .i64 o.x.id,.int .i64 (o.x.n+1),.string C.k] 52))
        replace BW:=ze_ BW (zb_ x0 (.cells #[.int .i64 o.x.id,.int .i64 (o.x.n+1),.string C.k] 52))
        refine wHk hK (zK_ (D5.out.next BW.out) (R5.out.next BW.out).c1) ?_
        clear hK K hH
        intro hH
        generalize x0.alloc (.cells #[.int .i64 o.x.id,.int .i64 (o.x.n+1),.string C.k] 52)=x1 at *
        generalize x0.heap.size=gl at *
        refine wpAnyH_ready (rs:=[2]) (by kernel_rfl) (by simp) ?_
        refine AllReadyH.cons rfl (fun K hK=>?_) AllReadyH.nil
        obtain ⟨b0,b1,b2,b3,b4,b5,b6⟩:=(R5.out.x.next BW.out).c7
        refine wLy ?_
        go_simp
        (try simp only [])
        refine wHk hK (zK_ (D5.out.next BW.out) (R5.out.next BW.out).c1) ?_
        clear hK K hH
        intro hH
        clear b0 b1 b2 b3 b4 b5 b6
        refine wRd 3 (fun K hK=>?_)
        rw [if_pos (by rfl)]
        refine zx_ elE (.tmp 131) (.tmp 133) rfl (.slice (some ⟨g0,0,none⟩) 0 0) 0 [] W5.heap.size o.x.fd.length rfl OW.out BW.out.size o.p1 o.x.fd.length o.c1 (zm_ o.x.fd) rfl (zO_ _) (zu_ _) lo (HN.out.next (R5.out.next BW.out).b).r1 (by omega) (by omega) ?_
        intro v3 c3 x2 hO3 hG3 hS3
        replace LT:Hid (GRow 0 _ (some ⟨gl,0,none⟩) (zm_ [⟨o.x.id,o.x.n+1,C.k⟩])):=LT.out.gro hG3 (fun k hk x hx _ e=>by cases hx; exact NE.out (by rw [hk]; exact congrArg some e.symm))
        replace NE:Hid _:=hG3.ne GL.out NE.out
        replace GL:Hid _:=Nat.lt_of_lt_of_le GL.out hG3.size
        replace BW:Hid (Below W5.heap.size W5 x2):=BW.out.trans (hG3.below BW.out.size OW.out.ge)
        replace OW:Hid (OwnG x2 52 3 (.slice v3 o.x.fd.length c3) o.x.fd.length (zm_ o.x.fd) W5.heap.size):=by show OwnG _ _ _ _ _ _ _; simpa using hO3
        clear hO3 hG3 hS3
        refine wHk hK (zK_ (D5.out.next BW.out) (R5.out.next BW.out).c1) ?_
        clear hK K hH
        intro hH
        refine wRd 10 (fun K hK=>?_)
        rw [if_pos (by rfl)]
        refine zx_ elE (.tmp 134) (.tmp 140) rfl (.slice v3 o.x.fd.length c3) o.x.fd.length (zm_ o.x.fd) W5.heap.size (o.x.fd.length+1) rfl OW.out BW.out.size (some ⟨gl,0,none⟩) 1 1 (zm_ [⟨o.x.id,o.x.n+1,C.k⟩]) rfl rfl (zu_ _) 0 LT.out (by omega) rfl ?_
        intro pf cf x3 hO8 hG8 hS8
        replace BW:Hid (Below W5.heap.size W5 x3):=BW.out.trans (hG8.below BW.out.size OW.out.ge)
        replace OW:=hm_ hO8
        clear hO8 hG8 hS8
        refine wHk hK (zK_ (D5.out.next BW.out) (R5.out.next BW.out).c1) ?_
        clear hK K hH
        intro hH
        refine wTk 11 ?_
        obtain ⟨b0,b1,b2,b3,b4,b5,b6⟩:=(R5.out.x.next BW.out).c7
        obtain ⟨f0,f1,f2,f3,f4,f5,f6⟩:=(R5.out.x.next BW.out).f7
        have hl4:=HL4.out
        have hl7:=HL7.out
        have R9:Hid (RW w (x3.setCell ⟨w.heap.size,4,none⟩ (.slice pf (o.x.fd.length+1) cf)) [.int .i64 o.x.id,.int .i64 (o.x.n+1),.int .i64 o.x.cut,.slice o.p0 o.ms.length o.c0,.slice pf (o.x.fd.length+1) cf,.slice o.p2 o.su.length o.c2,.slice o.p3 o.un.length o.c3] gw ⟨(yq_ true).toArray⟩ C.k ⟨(objT (vvT C.a C.b C.c) C.l).toArray⟩):=by
         have:=(R5.out.next BW.out).at (i:=4) (u:=.slice pf (o.x.fd.length+1) cf) (by simp)
         show RW _ _ _ _ _ _ _
         simpa using this
        have B9:Hid (Box (x3.setCell ⟨w.heap.size,4,none⟩ (.slice pf (o.x.fd.length+1) cf)) b9 [.slice vo C.l.length vc,.int .i64 C.a,.int .i64 C.b,.int .i64 C.c]):=(B5.out.next BW.out).oth (by omega)
        have D9:Hid (Box (x3.setCell ⟨w.heap.size,4,none⟩ (.slice pf (o.x.fd.length+1) cf)) b12 [.int .i64 o.x.id,.int .i64 (o.x.n+1)]):=(D5.out.next BW.out).oth (by omega)
        have G9:Hid (GRow (w.heap.size+2) (x3.setCell ⟨w.heap.size,4,none⟩ (.slice pf (o.x.fd.length+1) cf)) vo (flat C.l)):=(G5.out.next BW.out).keep (zh_ (by omega))
        have HF9:Hid (GRow (w.heap.size+2) (x3.setCell ⟨w.heap.size,4,none⟩ (.slice pf (o.x.fd.length+1) cf)) pf (zm_ (o.x.fd++[⟨o.x.id,o.x.n+1,C.k⟩]))∧o.x.fd.length+1≤cf):=by
         obtain ⟨pp,cc,ee,hcc,hgg⟩:=OW.out.grow
         cases ee
         refine ⟨?_,hcc⟩
         rw [z8_]
         exact (hgg.weak R5.out.lt.1).keep (zh_ (by omega))
        refine wRd 12 (fun K hK=>?_)
        go_simp
        (try simp only [])
        refine wHk hK (zK_ D9.out R9.out.c1) ?_
        clear hK K hH
        intro hH
        refine wDn ?_
        clear hH b0 b1 b2 b3 b4 b5 b6 f0 f1 f2 f3 f4 f5 f6
        go_wp2_with fail
        go_meet
        case rel=>exact ⟨rfl,pf,cf,R9.out,B9.out,G9.out,HF9.out⟩
      ·obtain ⟨b0,b1,b2,b3,b4,b5,b6⟩:=(R5.out.x.next BW.out).c7
       refine wLy ?_
       go_simp
       (try simp only [])
       refine wHk hK (zK_ (D5.out.next BW.out) (R5.out.next BW.out).c1) ?_
       clear hK K hH
       intro hH
       clear b0 b1 b2 b3 b4 b5 b6
       refine wpAnyH_ready (rs:=[0,9]) (by kernel_rfl) (by simp) ?_
       refine AllReadyH.cons rfl (fun K hK=>?_) (AllReadyH.cons rfl (fun K hK=>?_) AllReadyH.nil)
       ·refine wLy ?_
        go_simp
        (try simp only [])
        have OW:Hid (OwnG (wd.alloc (.cells #[] 52)) 52 3 (.slice (some ⟨wd.heap.size,0,none⟩) 0 0) 0 [] W5.heap.size):=OwnG.lit BW.out.size
        replace BW:=ze_ BW (zb_ wd (.cells #[] 52))
        refine wHk hK (zK_ (D5.out.next BW.out) (R5.out.next BW.out).c1) ?_
        clear hK K hH
        intro hH
        generalize wd.alloc (.cells #[] 52)=x0 at *
        generalize wd.heap.size=g0 at *
        refine wpAnyH_ready (rs:=[3,9]) (by kernel_rfl) (by simp) ?_
        refine AllReadyH.cons rfl (fun K hK=>?_) (AllReadyH.cons rfl (fun K hK=>?_) AllReadyH.nil)
        focus
         refine wLy ?_
         rw [if_pos (by rfl)]
         refine zx_ elE (.tmp 131) (.tmp 133) rfl (.slice (some ⟨g0,0,none⟩) 0 0) 0 [] W5.heap.size o.x.fd.length rfl OW.out BW.out.size o.p1 o.x.fd.length o.c1 (zm_ o.x.fd) rfl (zO_ _) (zu_ _) lo (HN.out.next (R5.out.next BW.out).b).r1 (by omega) (by omega) ?_
         intro v3 c3 x1 hO3 hG3 hS3
         replace BW:Hid (Below W5.heap.size W5 x1):=BW.out.trans (hG3.below BW.out.size OW.out.ge)
         replace OW:Hid (OwnG x1 52 3 (.slice v3 o.x.fd.length c3) o.x.fd.length (zm_ o.x.fd) W5.heap.size):=by show OwnG _ _ _ _ _ _ _; simpa using hO3
         clear hO3 hG3 hS3
         refine wHk hK (zK_ (D5.out.next BW.out) (R5.out.next BW.out).c1) ?_
         clear hK K hH
         intro hH
         refine wRd 9 (fun K hK=>?_)
         go_simp
         (try simp only [])
         have LT:Hid (GRow 0 (x1.alloc (.cells #[.int .i64 o.x.id,.int .i64 (o.x.n+1),.string C.k] 52)) (some ⟨x1.heap.size,0,none⟩) (zm_ [⟨o.x.id,o.x.n+1,C.k⟩])):=yz_
         have GL:Hid (x1.heap.size < (x1.alloc (.cells #[.int .i64 o.x.id,.int .i64 (o.x.n+1),.string C.k] 52)).heap.size):=z7_
         have NE:Hid ((Value.slice v3 o.x.fd.length c3).ownBlock≠some x1.heap.size):=fun e=>by have:=(OW.out.lt _ e).2; omega
         replace OW:Hid _:=OW.out.next (zb_ _ (.cells #[.int .i64 o.x.id,.int .i64 (o.x.n+1),.string C.k] 52))
         replace BW:=ze_ BW (zb_ x1 (.cells #[.int .i64 o.x.id,.int .i64 (o.x.n+1),.string C.k] 52))
         refine wHk hK (zK_ (D5.out.next BW.out) (R5.out.next BW.out).c1) ?_
         clear hK K hH
         intro hH
         generalize x1.alloc (.cells #[.int .i64 o.x.id,.int .i64 (o.x.n+1),.string C.k] 52)=x2 at *
         generalize x1.heap.size=gl at *
        rotate_left
        focus
         refine wLy ?_
         go_simp
         (try simp only [])
         have LT:Hid (GRow 0 (x0.alloc (.cells #[.int .i64 o.x.id,.int .i64 (o.x.n+1),.string C.k] 52)) (some ⟨x0.heap.size,0,none⟩) (zm_ [⟨o.x.id,o.x.n+1,C.k⟩])):=yz_
         have GL:Hid (x0.heap.size < (x0.alloc (.cells #[.int .i64 o.x.id,.int .i64 (o.x.n+1),.string C.k] 52)).heap.size):=z7_
         have NE:Hid ((Value.slice (some ⟨g0,0,none⟩) 0 0).ownBlock≠some x0.heap.size):=fun e=>by have:=(OW.out.lt _ e).2; omega
         replace OW:Hid _:=OW.out.next (zb_ _ (.cells #[.int .i64 o.x.id,.int .i64 (o.x.n+1),.string C.k] 52))
         replace BW:=ze_ BW (zb_ x0 (.cells #[.int .i64 o.x.id,.int .i64 (o.x.n+1),.string C.k] 52))
         refine wHk hK (zK_ (D5.out.next BW.out) (R5.out.next BW.out).c1) ?_
         clear hK K hH
         intro hH
         generalize x0.alloc (.cells #[.int .i64 o.x.id,.int .i64 (o.x.n+1),.string C.k] 52)=x1 at *
         generalize x0.heap.size=gl at *
         refine wRd 3 (fun K hK=>?_)
         rw [if_pos (by rfl)]
         refine zx_ elE (.tmp 131) (.tmp 133) rfl (.slice (some ⟨g0,0,none⟩) 0 0) 0 [] W5.heap.size o.x.fd.length rfl OW.out BW.out.size o.p1 o.x.fd.length o.c1 (zm_ o.x.fd) rfl (zO_ _) (zu_ _) lo (HN.out.next (R5.out.next BW.out).b).r1 (by omega) (by omega) ?_
         intro v3 c3 x2 hO3 hG3 hS3
         replace LT:Hid (GRow 0 _ (some ⟨gl,0,none⟩) (zm_ [⟨o.x.id,o.x.n+1,C.k⟩])):=LT.out.gro hG3 (fun k hk x hx _ e=>by cases hx; exact NE.out (by rw [hk]; exact congrArg some e.symm))
         replace NE:Hid _:=hG3.ne GL.out NE.out
         replace GL:Hid _:=Nat.lt_of_lt_of_le GL.out hG3.size
         replace BW:Hid (Below W5.heap.size W5 x2):=BW.out.trans (hG3.below BW.out.size OW.out.ge)
         replace OW:Hid (OwnG x2 52 3 (.slice v3 o.x.fd.length c3) o.x.fd.length (zm_ o.x.fd) W5.heap.size):=by show OwnG _ _ _ _ _ _ _; simpa using hO3
         clear hO3 hG3 hS3
         refine wHk hK (zK_ (D5.out.next BW.out) (R5.out.next BW.out).c1) ?_
         clear hK K hH
         intro hH
        rotate_left
        all_goals
         refine wRd 10 (fun K hK=>?_)
         rw [if_pos (by rfl)]
         refine zx_ elE (.tmp 134) (.tmp 140) rfl (.slice v3 o.x.fd.length c3) o.x.fd.length (zm_ o.x.fd) W5.heap.size (o.x.fd.length+1) rfl OW.out BW.out.size (some ⟨gl,0,none⟩) 1 1 (zm_ [⟨o.x.id,o.x.n+1,C.k⟩]) rfl rfl (zu_ _) 0 LT.out (by omega) rfl ?_
         intro pf cf x3 hO8 hG8 hS8
         replace BW:Hid (Below W5.heap.size W5 x3):=BW.out.trans (hG8.below BW.out.size OW.out.ge)
         replace OW:=hm_ hO8
         clear hO8 hG8 hS8
         refine wHk hK (zK_ (D5.out.next BW.out) (R5.out.next BW.out).c1) ?_
         clear hK K hH
         intro hH
         refine wTk 11 ?_
         obtain ⟨b0,b1,b2,b3,b4,b5,b6⟩:=(R5.out.x.next BW.out).c7
         obtain ⟨f0,f1,f2,f3,f4,f5,f6⟩:=(R5.out.x.next BW.out).f7
         have hl4:=HL4.out
         have hl7:=HL7.out
         have R9:Hid (RW w (x3.setCell ⟨w.heap.size,4,none⟩ (.slice pf (o.x.fd.length+1) cf)) [.int .i64 o.x.id,.int .i64 (o.x.n+1),.int .i64 o.x.cut,.slice o.p0 o.ms.length o.c0,.slice pf (o.x.fd.length+1) cf,.slice o.p2 o.su.length o.c2,.slice o.p3 o.un.length o.c3] gw ⟨(yq_ true).toArray⟩ C.k ⟨(objT (vvT C.a C.b C.c) C.l).toArray⟩):=by
          have:=(R5.out.next BW.out).at (i:=4) (u:=.slice pf (o.x.fd.length+1) cf) (by simp)
          show RW _ _ _ _ _ _ _
          simpa using this
         have B9:Hid (Box (x3.setCell ⟨w.heap.size,4,none⟩ (.slice pf (o.x.fd.length+1) cf)) b9 [.slice vo C.l.length vc,.int .i64 C.a,.int .i64 C.b,.int .i64 C.c]):=(B5.out.next BW.out).oth (by omega)
         have D9:Hid (Box (x3.setCell ⟨w.heap.size,4,none⟩ (.slice pf (o.x.fd.length+1) cf)) b12 [.int .i64 o.x.id,.int .i64 (o.x.n+1)]):=(D5.out.next BW.out).oth (by omega)
         have G9:Hid (GRow (w.heap.size+2) (x3.setCell ⟨w.heap.size,4,none⟩ (.slice pf (o.x.fd.length+1) cf)) vo (flat C.l)):=(G5.out.next BW.out).keep (zh_ (by omega))
         have HF9:Hid (GRow (w.heap.size+2) (x3.setCell ⟨w.heap.size,4,none⟩ (.slice pf (o.x.fd.length+1) cf)) pf (zm_ (o.x.fd++[⟨o.x.id,o.x.n+1,C.k⟩]))∧o.x.fd.length+1≤cf):=by
          obtain ⟨pp,cc,ee,hcc,hgg⟩:=OW.out.grow
          cases ee
          refine ⟨?_,hcc⟩
          rw [z8_]
          exact (hgg.weak R5.out.lt.1).keep (zh_ (by omega))
         refine wRd 12 (fun K hK=>?_)
         go_simp
         (try simp only [])
         refine wHk hK (zK_ D9.out R9.out.c1) ?_
         clear hK K hH
         intro hH
         refine wDn ?_
         clear hH b0 b1 b2 b3 b4 b5 b6 f0 f1 f2 f3 f4 f5 f6
         go_wp2_with fail
         go_meet
         case rel=>exact ⟨rfl,pf,cf,R9.out,B9.out,G9.out,HF9.out⟩
       ·refine wLy ?_
        go_simp
        (try simp only [])
        have LT:Hid (GRow 0 (wd.alloc (.cells #[.int .i64 o.x.id,.int .i64 (o.x.n+1),.string C.k] 52)) (some ⟨wd.heap.size,0,none⟩) (zm_ [⟨o.x.id,o.x.n+1,C.k⟩])):=yz_
        have GL:Hid (wd.heap.size < (wd.alloc (.cells #[.int .i64 o.x.id,.int .i64 (o.x.n+1),.string C.k] 52)).heap.size):=z7_
        replace BW:=ze_ BW (zb_ wd (.cells #[.int .i64 o.x.id,.int .i64 (o.x.n+1),.string C.k] 52))
        refine wHk hK (zK_ (D5.out.next BW.out) (R5.out.next BW.out).c1) ?_
        clear hK K hH
        intro hH
        generalize wd.alloc (.cells #[.int .i64 o.x.id,.int .i64 (o.x.n+1),.string C.k] 52)=x0 at *
        generalize wd.heap.size=gl at *
        refine wRd 0 (fun K hK=>?_)
        go_simp
        (try simp only [])
        have OW:Hid (OwnG (x0.alloc (.cells #[] 52)) 52 3 (.slice (some ⟨x0.heap.size,0,none⟩) 0 0) 0 [] W5.heap.size):=OwnG.lit BW.out.size
        have NE:Hid ((Value.slice (some ⟨x0.heap.size,0,none⟩) 0 0).ownBlock≠some gl):=fun e=>by simp [Value.ownBlock] at e; have:=GL.out; omega
        replace LT:Hid (GRow 0 _ (some ⟨gl,0,none⟩) (zm_ [⟨o.x.id,o.x.n+1,C.k⟩])):=LT.out.next (zb_ _ (.cells #[] 52))
        replace GL:Hid _:=Nat.lt_of_lt_of_le GL.out (zb_ x0 (.cells #[] 52)).size
        replace BW:=ze_ BW (zb_ x0 (.cells #[] 52))
        refine wHk hK (zK_ (D5.out.next BW.out) (R5.out.next BW.out).c1) ?_
        clear hK K hH
        intro hH
        generalize x0.alloc (.cells #[] 52)=x1 at *
        generalize x0.heap.size=g0 at *
        refine wRd 3 (fun K hK=>?_)
        rw [if_pos (by rfl)]
        refine zx_ elE (.tmp 131) (.tmp 133) rfl (.slice (some ⟨g0,0,none⟩) 0 0) 0 [] W5.heap.size o.x.fd.length rfl OW.out BW.out.size o.p1 o.x.fd.length o.c1 (zm_ o.x.fd) rfl (zO_ _) (zu_ _) lo (HN.out.next (R5.out.next BW.out).b).r1 (by omega) (by omega) ?_
        intro v3 c3 x2 hO3 hG3 hS3
        replace LT:Hid (GRow 0 _ (some ⟨gl,0,none⟩) (zm_ [⟨o.x.id,o.x.n+1,C.k⟩])):=LT.out.gro hG3 (fun k hk x hx _ e=>by cases hx; exact NE.out (by rw [hk]; exact congrArg some e.symm))
        replace NE:Hid _:=hG3.ne GL.out NE.out
        replace GL:Hid _:=Nat.lt_of_lt_of_le GL.out hG3.size
        replace BW:Hid (Below W5.heap.size W5 x2):=BW.out.trans (hG3.below BW.out.size OW.out.ge)
        replace OW:Hid (OwnG x2 52 3 (.slice v3 o.x.fd.length c3) o.x.fd.length (zm_ o.x.fd) W5.heap.size):=by show OwnG _ _ _ _ _ _ _; simpa using hO3
        clear hO3 hG3 hS3
        refine wHk hK (zK_ (D5.out.next BW.out) (R5.out.next BW.out).c1) ?_
        clear hK K hH
        intro hH
        refine wRd 10 (fun K hK=>?_)
        rw [if_pos (by rfl)]
        refine zx_ elE (.tmp 134) (.tmp 140) rfl (.slice v3 o.x.fd.length c3) o.x.fd.length (zm_ o.x.fd) W5.heap.size (o.x.fd.length+1) rfl OW.out BW.out.size (some ⟨gl,0,none⟩) 1 1 (zm_ [⟨o.x.id,o.x.n+1,C.k⟩]) rfl rfl (zu_ _) 0 LT.out (by omega) rfl ?_
        intro pf cf x3 hO8 hG8 hS8
        replace BW:Hid (Below W5.heap.size W5 x3):=BW.out.trans (hG8.below BW.out.size OW.out.ge)
        replace OW:=hm_ hO8
        clear hO8 hG8 hS8
        refine wHk hK (zK_ (D5.out.next BW.out) (R5.out.next BW.out).c1) ?_
        clear hK K hH
        intro hH
        refine wTk 11 ?_
        obtain ⟨b0,b1,b2,b3,b4,b5,b6⟩:=(R5.out.x.next BW.out).c7
        obtain ⟨f0,f1,f2,f3,f4,f5,f6⟩:=(R5.out.x.next BW.out).f7
        have hl4:=HL4.out
        have hl7:=HL7.out
        have R9:Hid (RW w (x3.setCell ⟨w.heap.size,4,none⟩ (.slice pf (o.x.fd.length+1) cf)) [.int .i64 o.x.id,.int .i64 (o.x.n+1),.int .i64 o.x.cut,.slice o.p0 o.ms.length o.c0,.slice pf (o.x.fd.length+1) cf,.slice o.p2 o.su.length o.c2,.slice o.p3 o.un.length o.c3] gw ⟨(yq_ true).toArray⟩ C.k ⟨(objT (vvT C.a C.b C.c) C.l).toArray⟩):=by
         have:=(R5.out.next BW.out).at (i:=4) (u:=.slice pf (o.x.fd.length+1) cf) (by simp)
         show RW _ _ _ _ _ _ _
         simpa using this
        have B9:Hid (Box (x3.setCell ⟨w.heap.size,4,none⟩ (.slice pf (o.x.fd.length+1) cf)) b9 [.slice vo C.l.length vc,.int .i64 C.a,.int .i64 C.b,.int .i64 C.c]):=(B5.out.next BW.out).oth (by omega)
        have D9:Hid (Box (x3.setCell ⟨w.heap.size,4,none⟩ (.slice pf (o.x.fd.length+1) cf)) b12 [.int .i64 o.x.id,.int .i64 (o.x.n+1)]):=(D5.out.next BW.out).oth (by omega)
        have G9:Hid (GRow (w.heap.size+2) (x3.setCell ⟨w.heap.size,4,none⟩ (.slice pf (o.x.fd.length+1) cf)) vo (flat C.l)):=(G5.out.next BW.out).keep (zh_ (by omega))
        have HF9:Hid (GRow (w.heap.size+2) (x3.setCell ⟨w.heap.size,4,none⟩ (.slice pf (o.x.fd.length+1) cf)) pf (zm_ (o.x.fd++[⟨o.x.id,o.x.n+1,C.k⟩]))∧o.x.fd.length+1≤cf):=by
         obtain ⟨pp,cc,ee,hcc,hgg⟩:=OW.out.grow
         cases ee
         refine ⟨?_,hcc⟩
         rw [z8_]
         exact (hgg.weak R5.out.lt.1).keep (zh_ (by omega))
        refine wRd 12 (fun K hK=>?_)
        go_simp
        (try simp only [])
        refine wHk hK (zK_ D9.out R9.out.c1) ?_
        clear hK K hH
        intro hH
        refine wDn ?_
        clear hH b0 b1 b2 b3 b4 b5 b6 f0 f1 f2 f3 f4 f5 f6
        go_wp2_with fail
        go_meet
        case rel=>exact ⟨rfl,pf,cf,R9.out,B9.out,G9.out,HF9.out⟩
      ·refine wLy ?_
       go_simp
       (try simp only [])
       have LT:Hid (GRow 0 (wd.alloc (.cells #[.int .i64 o.x.id,.int .i64 (o.x.n+1),.string C.k] 52)) (some ⟨wd.heap.size,0,none⟩) (zm_ [⟨o.x.id,o.x.n+1,C.k⟩])):=yz_
       have GL:Hid (wd.heap.size < (wd.alloc (.cells #[.int .i64 o.x.id,.int .i64 (o.x.n+1),.string C.k] 52)).heap.size):=z7_
       replace BW:=ze_ BW (zb_ wd (.cells #[.int .i64 o.x.id,.int .i64 (o.x.n+1),.string C.k] 52))
       refine wHk hK (zK_ (D5.out.next BW.out) (R5.out.next BW.out).c1) ?_
       clear hK K hH
       intro hH
       generalize wd.alloc (.cells #[.int .i64 o.x.id,.int .i64 (o.x.n+1),.string C.k] 52)=x0 at *
       generalize wd.heap.size=gl at *
       refine wpAnyH_ready (rs:=[0,2]) (by kernel_rfl) (by simp) ?_
       refine AllReadyH.cons rfl (fun K hK=>?_) (AllReadyH.cons rfl (fun K hK=>?_) AllReadyH.nil)
       focus
        refine wLy ?_
        go_simp
        (try simp only [])
        have OW:Hid (OwnG (x0.alloc (.cells #[] 52)) 52 3 (.slice (some ⟨x0.heap.size,0,none⟩) 0 0) 0 [] W5.heap.size):=OwnG.lit BW.out.size
        have NE:Hid ((Value.slice (some ⟨x0.heap.size,0,none⟩) 0 0).ownBlock≠some gl):=fun e=>by simp [Value.ownBlock] at e; have:=GL.out; omega
        replace LT:Hid (GRow 0 _ (some ⟨gl,0,none⟩) (zm_ [⟨o.x.id,o.x.n+1,C.k⟩])):=LT.out.next (zb_ _ (.cells #[] 52))
        replace GL:Hid _:=Nat.lt_of_lt_of_le GL.out (zb_ x0 (.cells #[] 52)).size
        replace BW:=ze_ BW (zb_ x0 (.cells #[] 52))
        refine wHk hK (zK_ (D5.out.next BW.out) (R5.out.next BW.out).c1) ?_
        clear hK K hH
        intro hH
        generalize x0.alloc (.cells #[] 52)=x1 at *
        generalize x0.heap.size=g0 at *
        refine wpAnyH_ready (rs:=[2]) (by kernel_rfl) (by simp) ?_
        refine AllReadyH.cons rfl (fun K hK=>?_) AllReadyH.nil
        obtain ⟨b0,b1,b2,b3,b4,b5,b6⟩:=(R5.out.x.next BW.out).c7
        refine wLy ?_
        go_simp
        (try simp only [])
        refine wHk hK (zK_ (D5.out.next BW.out) (R5.out.next BW.out).c1) ?_
        clear hK K hH
        intro hH
        clear b0 b1 b2 b3 b4 b5 b6
       rotate_left
       focus
        obtain ⟨b0,b1,b2,b3,b4,b5,b6⟩:=(R5.out.x.next BW.out).c7
        refine wLy ?_
        go_simp
        (try simp only [])
        refine wHk hK (zK_ (D5.out.next BW.out) (R5.out.next BW.out).c1) ?_
        clear hK K hH
        intro hH
        clear b0 b1 b2 b3 b4 b5 b6
        refine wRd 0 (fun K hK=>?_)
        go_simp
        (try simp only [])
        have OW:Hid (OwnG (x0.alloc (.cells #[] 52)) 52 3 (.slice (some ⟨x0.heap.size,0,none⟩) 0 0) 0 [] W5.heap.size):=OwnG.lit BW.out.size
        have NE:Hid ((Value.slice (some ⟨x0.heap.size,0,none⟩) 0 0).ownBlock≠some gl):=fun e=>by simp [Value.ownBlock] at e; have:=GL.out; omega
        replace LT:Hid (GRow 0 _ (some ⟨gl,0,none⟩) (zm_ [⟨o.x.id,o.x.n+1,C.k⟩])):=LT.out.next (zb_ _ (.cells #[] 52))
        replace GL:Hid _:=Nat.lt_of_lt_of_le GL.out (zb_ x0 (.cells #[] 52)).size
        replace BW:=ze_ BW (zb_ x0 (.cells #[] 52))
        refine wHk hK (zK_ (D5.out.next BW.out) (R5.out.next BW.out).c1) ?_
        clear hK K hH
        intro hH
        generalize x0.alloc (.cells #[] 52)=x1 at *
        generalize x0.heap.size=g0 at *
       rotate_left
       all_goals
        refine wRd 3 (fun K hK=>?_)
        rw [if_pos (by rfl)]
        refine zx_ elE (.tmp 131) (.tmp 133) rfl (.slice (some ⟨g0,0,none⟩) 0 0) 0 [] W5.heap.size o.x.fd.length rfl OW.out BW.out.size o.p1 o.x.fd.length o.c1 (zm_ o.x.fd) rfl (zO_ _) (zu_ _) lo (HN.out.next (R5.out.next BW.out).b).r1 (by omega) (by omega) ?_
        intro v3 c3 x2 hO3 hG3 hS3
        replace LT:Hid (GRow 0 _ (some ⟨gl,0,none⟩) (zm_ [⟨o.x.id,o.x.n+1,C.k⟩])):=LT.out.gro hG3 (fun k hk x hx _ e=>by cases hx; exact NE.out (by rw [hk]; exact congrArg some e.symm))
        replace NE:Hid _:=hG3.ne GL.out NE.out
        replace GL:Hid _:=Nat.lt_of_lt_of_le GL.out hG3.size
        replace BW:Hid (Below W5.heap.size W5 x2):=BW.out.trans (hG3.below BW.out.size OW.out.ge)
        replace OW:Hid (OwnG x2 52 3 (.slice v3 o.x.fd.length c3) o.x.fd.length (zm_ o.x.fd) W5.heap.size):=by show OwnG _ _ _ _ _ _ _; simpa using hO3
        clear hO3 hG3 hS3
        refine wHk hK (zK_ (D5.out.next BW.out) (R5.out.next BW.out).c1) ?_
        clear hK K hH
        intro hH
        refine wRd 10 (fun K hK=>?_)
        rw [if_pos (by rfl)]
        refine zx_ elE (.tmp 134) (.tmp 140) rfl (.slice v3 o.x.fd.length c3) o.x.fd.length (zm_ o.x.fd) W5.heap.size (o.x.fd.length+1) rfl OW.out BW.out.size (some ⟨gl,0,none⟩) 1 1 (zm_ [⟨o.x.id,o.x.n+1,C.k⟩]) rfl rfl (zu_ _) 0 LT.out (by omega) rfl ?_
        intro pf cf x3 hO8 hG8 hS8
        replace BW:Hid (Below W5.heap.size W5 x3):=BW.out.trans (hG8.below BW.out.size OW.out.ge)
        replace OW:=hm_ hO8
        clear hO8 hG8 hS8
        refine wHk hK (zK_ (D5.out.next BW.out) (R5.out.next BW.out).c1) ?_
        clear hK K hH
        intro hH
        refine wTk 11 ?_
        obtain ⟨b0,b1,b2,b3,b4,b5,b6⟩:=(R5.out.x.next BW.out).c7
        obtain ⟨f0,f1,f2,f3,f4,f5,f6⟩:=(R5.out.x.next BW.out).f7
        have hl4:=HL4.out
        have hl7:=HL7.out
        have R9:Hid (RW w (x3.setCell ⟨w.heap.size,4,none⟩ (.slice pf (o.x.fd.length+1) cf)) [.int .i64 o.x.id,.int .i64 (o.x.n+1),.int .i64 o.x.cut,.slice o.p0 o.ms.length o.c0,.slice pf (o.x.fd.length+1) cf,.slice o.p2 o.su.length o.c2,.slice o.p3 o.un.length o.c3] gw ⟨(yq_ true).toArray⟩ C.k ⟨(objT (vvT C.a C.b C.c) C.l).toArray⟩):=by
         have:=(R5.out.next BW.out).at (i:=4) (u:=.slice pf (o.x.fd.length+1) cf) (by simp)
         show RW _ _ _ _ _ _ _
         simpa using this
        have B9:Hid (Box (x3.setCell ⟨w.heap.size,4,none⟩ (.slice pf (o.x.fd.length+1) cf)) b9 [.slice vo C.l.length vc,.int .i64 C.a,.int .i64 C.b,.int .i64 C.c]):=(B5.out.next BW.out).oth (by omega)
        have D9:Hid (Box (x3.setCell ⟨w.heap.size,4,none⟩ (.slice pf (o.x.fd.length+1) cf)) b12 [.int .i64 o.x.id,.int .i64 (o.x.n+1)]):=(D5.out.next BW.out).oth (by omega)
        have G9:Hid (GRow (w.heap.size+2) (x3.setCell ⟨w.heap.size,4,none⟩ (.slice pf (o.x.fd.length+1) cf)) vo (flat C.l)):=(G5.out.next BW.out).keep (zh_ (by omega))
        have HF9:Hid (GRow (w.heap.size+2) (x3.setCell ⟨w.heap.size,4,none⟩ (.slice pf (o.x.fd.length+1) cf)) pf (zm_ (o.x.fd++[⟨o.x.id,o.x.n+1,C.k⟩]))∧o.x.fd.length+1≤cf):=by
         obtain ⟨pp,cc,ee,hcc,hgg⟩:=OW.out.grow
         cases ee
         refine ⟨?_,hcc⟩
         rw [z8_]
         exact (hgg.weak R5.out.lt.1).keep (zh_ (by omega))
        refine wRd 12 (fun K hK=>?_)
        go_simp
        (try simp only [])
        refine wHk hK (zK_ D9.out R9.out.c1) ?_
        clear hK K hH
        intro hH
        refine wDn ?_
        clear hH b0 b1 b2 b3 b4 b5 b6 f0 f1 f2 f3 f4 f5 f6
        go_wp2_with fail
        go_meet
        case rel=>exact ⟨rfl,pf,cf,R9.out,B9.out,G9.out,HF9.out⟩
     case rest=>
      obtain ⟨rfl,pf,cf,hr9,hb9,hg9,hf9⟩:=hcut
      generalize wc=W9 at *
      obtain ⟨X1,hX1⟩:∃ X1:Nd,X1=⟨o.x.id,o.x.n+1,o.x.cut,o.x.cs,o.x.fd++[⟨o.x.id,o.x.n+1,C.k⟩]⟩:=⟨_,rfl⟩
      have R9:Hid (RW w W9 [.int .i64 X1.id,.int .i64 X1.n,.int .i64 X1.cut,.slice o.p0 o.ms.length o.c0,.slice pf X1.fd.length cf,.slice o.p2 o.su.length o.c2,.slice o.p3 o.un.length o.c3] gw ⟨(yq_ true).toArray⟩ C.k ⟨(objT (vvT C.a C.b C.c) C.l).toArray⟩):=by rw [hX1]; show RW _ _ _ _ _ _ _; simpa using hr9
      have B9:=hm_ hb9
      have G9:=hm_ hg9
      have HX:Hid ({ X1 with cs:=setC C o.x.cs }=nxt o.x (true,C)∧X1.cs=o.x.cs):=by rw [hX1]; exact ⟨rfl,rfl⟩
      have HKF:Hid (X1.fd.length≤cf):=by rw [hX1]; show List.length _≤_; simpa using hf9.2
      have FR:Hid (∀ Wf,Below w.heap.size w Wf→Kept (w.heap.size+2) W9 Wf→GRow lo Wf pf (zm_ X1.fd)):=fun Wf _ hk=>by rw [hX1]; exact (hf9.1.keep hk).weak (by omega)
      have FN:Hid (∀ b,b < w.heap.size→NoX o b→∀ y,pf=some y→zm_ X1.fd≠[]→y.block≠b):=fun b hb _=>by rw [hX1]; exact yK_ hf9.1 (by omega)
      clear hr9 hb9 hg9 hf9 R5 B5 G5 D5 hX1
      refine hKL _ _ ?_
      simp only [Exit.inBlock,Exit.then]
      clear hKL
      go_upto_region 24 with fail
      have CT:Hid (∀ W,Below w.heap.size w W→GRow (w.heap.size+2) W vo (flat C.l)→GRow lo W pf (zm_ X1.fd)→Calls Tryz.prog 103 #[.agg #[.int .i64 X1.id,.int .i64 X1.n,.int .i64 X1.cut,.slice o.p0 o.ms.length o.c0,.slice pf X1.fd.length cf,.slice o.p2 o.su.length o.c2,.slice o.p3 o.un.length o.c3],.string C.k,.agg #[.slice vo C.l.length vc,.int .i64 C.a,.int .i64 C.b,.int .i64 C.c]] W fun e w'=>∃ p' c',e=.returned (.agg #[.int .i64 X1.id,.int .i64 X1.n,.int .i64 X1.cut,.slice p' (setM ⟨C,vo,vc⟩ o.ms).length c',.slice pf X1.fd.length cf,.slice o.p2 o.su.length o.c2,.slice o.p3 o.un.length o.c3])∧GRow W.heap.size w' p' (zn_ (setM ⟨C,vo,vc⟩ o.ms))∧(setM ⟨C,vo,vc⟩ o.ms).length≤c'∧Below W.heap.size W w'):=fun W hB hv hf=>by
       refine (wv_ lo { o with x:=X1,p1:=pf,c1:=cf } C vo vc W (Nat.le_trans hlo hB.size) (by show o.ms.length≤100000; omega) (sa_ HN.out hB HX.out.2 hf HKF.out) (hv.weak (by omega)) hvc).mono ?_
       rintro e w' ⟨p',c',rfl,_,hg,hc,hb⟩
       exact ⟨p',c',rfl,hg,hc,hb⟩
      refine wp_region_held_drew (S:=(fun w'=>(w'.cell? ⟨w.heap.size,0,none⟩=some (.int .i64 X1.id)∧w'.cell? ⟨w.heap.size,1,none⟩=some (.int .i64 X1.n)∧w'.cell? ⟨w.heap.size,2,none⟩=some (.int .i64 X1.cut)∧w'.cell? ⟨w.heap.size,3,none⟩=some (.slice o.p0 o.ms.length o.c0)∧w'.cell? ⟨w.heap.size,4,none⟩=some (.slice pf X1.fd.length cf)∧w'.cell? ⟨w.heap.size,5,none⟩=some (.slice o.p2 o.su.length o.c2)∧w'.cell? ⟨w.heap.size,6,none⟩=some (.slice o.p3 o.un.length o.c3)∧w'.cell? ⟨gw,1,none⟩=some (.string C.k))∧(w'.cell? ⟨b9,0,none⟩=some (.slice vo C.l.length vc)∧w'.cell? ⟨b9,1,none⟩=some (.int .i64 C.a)∧w'.cell? ⟨b9,2,none⟩=some (.int .i64 C.b)∧w'.cell? ⟨b9,3,none⟩=some (.int .i64 C.c)))) (by kernel_rfl) ?_ (fun hH=>?_)
      ·(try dsimp only)
       exact wq_ (R9.out.next (zc_ _)).x (R9.out.next (zc_ _)).c1 (B9.out.next (zc_ _))
      have BW:Hid (Below W9.heap.size W9 W9.drew):=zc_ _
      refine wTk 0 ?_
      refine wTk 1 ?_
      refine wTk 2 ?_
      refine wTk 3 ?_
      refine wTk 4 ?_
      generalize W9.drew=wd at *
      refine wRd 5 (fun K hK=>?_)
      go_simp
      go_at_call 103
      refine (CT.out _ (R9.out.next BW.out).b (G9.out.next BW.out) (FR.out _ (R9.out.next BW.out).b (yt_ BW.out))).mono ?_
      rintro e x0 ⟨p',c',rfl,hg,hc,hb⟩
      (try simp only [])
      have HGP:Hid (GRow (w.heap.size+2) x0 p' (zn_ (setM ⟨C,vo,vc⟩ o.ms))):=hg.weak (Nat.le_trans R9.out.lt.1 BW.out.size)
      have HCP:=hm_ hc
      replace BW:=ze_ BW hb
      clear hg hc hb CT
      refine wHk hK (wq_ (R9.out.next BW.out).x (R9.out.next BW.out).c1 (B9.out.next BW.out)) ?_
      clear hK K hH
      intro hH
      obtain ⟨a0,a1,a2,a3,a4,a5,a6⟩:=(R9.out.z.next BW.out).c7
      obtain ⟨f0,f1,f2,f3,f4,f5,f6⟩:=(R9.out.z.next BW.out).f7
      have hgz:gw≠w.heap.size+1:=xT_ (R9.out.z.next BW.out) (i:=1) (by simp) rfl (R9.out.next BW.out).c1
      have hz9:=HL4.out
      have KX:Hid (Box ((((((((x0.setCell ⟨w.heap.size+1,0,none⟩ (.int .i64 X1.id)).setCell ⟨w.heap.size+1,1,none⟩ (.int .i64 X1.n)).setCell ⟨w.heap.size+1,2,none⟩ (.int .i64 X1.cut)).setCell ⟨w.heap.size+1,3,none⟩ (.slice p' (setM ⟨C,vo,vc⟩ o.ms).length c')).setCell ⟨w.heap.size+1,4,none⟩ (.slice pf X1.fd.length cf)).setCell ⟨w.heap.size+1,5,none⟩ (.slice o.p2 o.su.length o.c2)).setCell ⟨w.heap.size+1,6,none⟩ (.slice o.p3 o.un.length o.c3))) w.heap.size [.int .i64 X1.id,.int .i64 X1.n,.int .i64 X1.cut,.slice o.p0 o.ms.length o.c0,.slice pf X1.fd.length cf,.slice o.p2 o.su.length o.c2,.slice o.p3 o.un.length o.c3]):=(R9.out.next BW.out).x.o7 (by omega)
      have KG:Hid (((((((((x0.setCell ⟨w.heap.size+1,0,none⟩ (.int .i64 X1.id)).setCell ⟨w.heap.size+1,1,none⟩ (.int .i64 X1.n)).setCell ⟨w.heap.size+1,2,none⟩ (.int .i64 X1.cut)).setCell ⟨w.heap.size+1,3,none⟩ (.slice p' (setM ⟨C,vo,vc⟩ o.ms).length c')).setCell ⟨w.heap.size+1,4,none⟩ (.slice pf X1.fd.length cf)).setCell ⟨w.heap.size+1,5,none⟩ (.slice o.p2 o.su.length o.c2)).setCell ⟨w.heap.size+1,6,none⟩ (.slice o.p3 o.un.length o.c3))).cell? ⟨gw,1,none⟩=some (.string C.k)):=qH_ (R9.out.next BW.out).c1 hgz
      have K9:Hid (Box ((((((((x0.setCell ⟨w.heap.size+1,0,none⟩ (.int .i64 X1.id)).setCell ⟨w.heap.size+1,1,none⟩ (.int .i64 X1.n)).setCell ⟨w.heap.size+1,2,none⟩ (.int .i64 X1.cut)).setCell ⟨w.heap.size+1,3,none⟩ (.slice p' (setM ⟨C,vo,vc⟩ o.ms).length c')).setCell ⟨w.heap.size+1,4,none⟩ (.slice pf X1.fd.length cf)).setCell ⟨w.heap.size+1,5,none⟩ (.slice o.p2 o.su.length o.c2)).setCell ⟨w.heap.size+1,6,none⟩ (.slice o.p3 o.un.length o.c3))) b9 [.slice vo C.l.length vc,.int .i64 C.a,.int .i64 C.b,.int .i64 C.c]):=(B9.out.next BW.out).o7 (by omega)
      have KZ:Hid (Box ((((((((x0.setCell ⟨w.heap.size+1,0,none⟩ (.int .i64 X1.id)).setCell ⟨w.heap.size+1,1,none⟩ (.int .i64 X1.n)).setCell ⟨w.heap.size+1,2,none⟩ (.int .i64 X1.cut)).setCell ⟨w.heap.size+1,3,none⟩ (.slice p' (setM ⟨C,vo,vc⟩ o.ms).length c')).setCell ⟨w.heap.size+1,4,none⟩ (.slice pf X1.fd.length cf)).setCell ⟨w.heap.size+1,5,none⟩ (.slice o.p2 o.su.length o.c2)).setCell ⟨w.heap.size+1,6,none⟩ (.slice o.p3 o.un.length o.c3))) (w.heap.size+1) [.int .i64 X1.id,.int .i64 X1.n,.int .i64 X1.cut,.slice p' (setM ⟨C,vo,vc⟩ o.ms).length c',.slice pf X1.fd.length cf,.slice o.p2 o.su.length o.c2,.slice o.p3 o.un.length o.c3]):=(R9.out.z.next BW.out).s7
      have KP:Hid (GRow (w.heap.size+2) ((((((((x0.setCell ⟨w.heap.size+1,0,none⟩ (.int .i64 X1.id)).setCell ⟨w.heap.size+1,1,none⟩ (.int .i64 X1.n)).setCell ⟨w.heap.size+1,2,none⟩ (.int .i64 X1.cut)).setCell ⟨w.heap.size+1,3,none⟩ (.slice p' (setM ⟨C,vo,vc⟩ o.ms).length c')).setCell ⟨w.heap.size+1,4,none⟩ (.slice pf X1.fd.length cf)).setCell ⟨w.heap.size+1,5,none⟩ (.slice o.p2 o.su.length o.c2)).setCell ⟨w.heap.size+1,6,none⟩ (.slice o.p3 o.un.length o.c3))) p' (zn_ (setM ⟨C,vo,vc⟩ o.ms))):=w1_ (by omega) HGP.out
      have KV:Hid (GRow (w.heap.size+2) ((((((((x0.setCell ⟨w.heap.size+1,0,none⟩ (.int .i64 X1.id)).setCell ⟨w.heap.size+1,1,none⟩ (.int .i64 X1.n)).setCell ⟨w.heap.size+1,2,none⟩ (.int .i64 X1.cut)).setCell ⟨w.heap.size+1,3,none⟩ (.slice p' (setM ⟨C,vo,vc⟩ o.ms).length c')).setCell ⟨w.heap.size+1,4,none⟩ (.slice pf X1.fd.length cf)).setCell ⟨w.heap.size+1,5,none⟩ (.slice o.p2 o.su.length o.c2)).setCell ⟨w.heap.size+1,6,none⟩ (.slice o.p3 o.un.length o.c3))) vo (flat C.l)):=w1_ (by omega) (G9.out.next BW.out)
      have KB:Hid (Below w.heap.size w ((((((((x0.setCell ⟨w.heap.size+1,0,none⟩ (.int .i64 X1.id)).setCell ⟨w.heap.size+1,1,none⟩ (.int .i64 X1.n)).setCell ⟨w.heap.size+1,2,none⟩ (.int .i64 X1.cut)).setCell ⟨w.heap.size+1,3,none⟩ (.slice p' (setM ⟨C,vo,vc⟩ o.ms).length c')).setCell ⟨w.heap.size+1,4,none⟩ (.slice pf X1.fd.length cf)).setCell ⟨w.heap.size+1,5,none⟩ (.slice o.p2 o.su.length o.c2)).setCell ⟨w.heap.size+1,6,none⟩ (.slice o.p3 o.un.length o.c3)))):=vC_ (R9.out.next BW.out).b (by omega)
      have KF:Hid (GRow lo ((((((((x0.setCell ⟨w.heap.size+1,0,none⟩ (.int .i64 X1.id)).setCell ⟨w.heap.size+1,1,none⟩ (.int .i64 X1.n)).setCell ⟨w.heap.size+1,2,none⟩ (.int .i64 X1.cut)).setCell ⟨w.heap.size+1,3,none⟩ (.slice p' (setM ⟨C,vo,vc⟩ o.ms).length c')).setCell ⟨w.heap.size+1,4,none⟩ (.slice pf X1.fd.length cf)).setCell ⟨w.heap.size+1,5,none⟩ (.slice o.p2 o.su.length o.c2)).setCell ⟨w.heap.size+1,6,none⟩ (.slice o.p3 o.un.length o.c3))) pf (zm_ X1.fd)):=FR.out _ KB.out (nH_ (by omega) (yt_ BW.out) (R9.out.lt.1))
      refine wRd 6 (fun K hK=>?_)
      go_simp
      (try simp only [])
      refine wHk hK (wq_ KX.out KG.out K9.out) ?_
      clear hK K hH
      intro hH
      generalize (((((((x0.setCell ⟨w.heap.size+1,0,none⟩ (.int .i64 X1.id)).setCell ⟨w.heap.size+1,1,none⟩ (.int .i64 X1.n)).setCell ⟨w.heap.size+1,2,none⟩ (.int .i64 X1.cut)).setCell ⟨w.heap.size+1,3,none⟩ (.slice p' (setM ⟨C,vo,vc⟩ o.ms).length c')).setCell ⟨w.heap.size+1,4,none⟩ (.slice pf X1.fd.length cf)).setCell ⟨w.heap.size+1,5,none⟩ (.slice o.p2 o.su.length o.c2)).setCell ⟨w.heap.size+1,6,none⟩ (.slice o.p3 o.un.length o.c3))=W8 at *
      clear a0 a1 a2 a3 a4 a5 a6 f0 f1 f2 f3 f4 f5 f6
      refine wRd 7 (fun K hK=>?_)
      go_simp
      (try simp only [])
      refine wHk hK (wq_ KX.out KG.out K9.out) ?_
      clear hK K hH
      intro hH
      refine wDn ?_
      clear hH
      obtain ⟨a0,a1,a2,a3,a4,a5,a6⟩:=KZ.out.c7
      go_wp2_with fail
      refine bodyPost_ret (v:=.tuple #[.agg #[.int .i64 X1.id,.int .i64 X1.n,.int .i64 X1.cut,.slice p' (setM ⟨C,vo,vc⟩ o.ms).length c',.slice pf X1.fd.length cf,.slice o.p2 o.su.length o.c2,.slice o.p3 o.un.length o.c3],.bool true]) (by simp [results,Tryz.results159,go_sem,a0,a1,a2,a3,a4,a5,a6]) rfl ?_
      exact ⟨⟨{ X1 with cs:=setC C o.x.cs },setM ⟨C,vo,vc⟩ o.ms,p',c',pf,cf,o.p2,o.c2,o.p3,o.c3,o.su,o.un⟩,rfl,vS_ HN.out KB.out (KV.out.weak (by omega)) hvc (KP.out.weak (by omega)) HCP.out rfl KF.out HKF.out (HN.out.next KB.out).r3 HN.out.le.2.2.2,HX.out.1,rfl,rfl,fun b hb hx=>r6_ (l0:=w.heap.size+2) (by omega) hx KV.out KP.out (FN.out b hb hx),KB.out⟩
end Go.Proofs.YtiokjphefpicbaaGreatDoor
