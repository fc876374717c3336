/- Nodes and their buckets, part 42 of the law FnDigest. -/
import Derived.Test.YtiokjphefpicbaaGreatDoorM38
import Derived.Test.YtiokjphefpicbaaGreatDoorM41
import Derived.Carry
namespace Go.Proofs.YtiokjphefpicbaaGreatDoor
open Go.RowKit
set_option maxRecDepth 100000
set_option maxHeartbeats 16000000
set_option linter.unusedSimpArgs false
set_option linter.unusedVariables false
theorem nT_ (w:World):Sem.run Tryz.prog (binOp BinOp.eql 23 (Value.slice none 0 0) (Value.slice none 0 0)) w=.ok (.bool true) w:=by
 kernel_rfl
theorem nS_ (w:World):Sem.run Tryz.prog (binOp BinOp.eql 24 (Value.slice none 0 0) (Value.slice none 0 0)) w=.ok (.bool true) w:=by
 kernel_rfl
theorem rl_ (w:World):Calls Tryz.prog 89 #[.slice none 0 0] w fun e w'=>e=.returned (.slice none 0 0)∧w'=w:=by
 have en:=nT_
 go_enter Tryz.func89,Tryz.ntmps89
 go_wp2
 go_ret
 exact ⟨rfl,rfl⟩
theorem rk_ (w:World):Calls Tryz.prog 91 #[.slice none 0 0] w fun e w'=>e=.returned (.slice none 0 0)∧w'=w:=by
 have en:=nS_
 go_enter Tryz.func91,Tryz.ntmps91
 go_wp2
 go_ret
 exact ⟨rfl,rfl⟩
theorem qN_ (j:Int) (w:World):Calls Tryz.prog 87 #[.agg #[.int .i64 j,.int .i64 0,.int .i64 0,.slice none 0 0,.slice none 0 0,.slice none 0 0,.slice none 0 0]] w fun e w'=>∃ mb,e=.returned (.map (some mb))∧MapF w' Tryz.prog 9 mb 0 (fun _=>none)∧w.heap.size≤mb∧Below w.heap.size w w':=by
 have M0:Hid (MapF ((w.alloc (.cells #[.int .i64 j,.int .i64 0,.int .i64 0,.slice none 0 0,.slice none 0 0,.slice none 0 0,.slice none 0 0] 29)).alloc (.map #[] 0)) Tryz.prog 9 (w.heap.size+1) 0 (fun _=>none)):=by have:=qc_ (w.alloc (.cells #[.int .i64 j,.int .i64 0,.int .i64 0,.slice none 0 0,.slice none 0 0,.slice none 0 0,.slice none 0 0] 29)) Tryz.prog 9; show MapF _ _ _ _ _ _; simpa using this
 have RM:=fun (W:World)=>run_makeMap (P:=Tryz.prog) 125 W
 go_enter Tryz.func87,Tryz.ntmps87
 go_wp2
 go_loopw [10] (fun s10 wr=>s10=.int .i64 0∧wr=((w.alloc (.cells #[.int .i64 j,.int .i64 0,.int .i64 0,.slice none 0 0,.slice none 0 0,.slice none 0 0,.slice none 0 0] 29)).alloc (.map #[] 0))) (fun _ _=>0)
 case atStart=>exact ⟨rfl,rfl⟩
 case round=>
  obtain ⟨rfl,rfl⟩:=hrel
  go_wp2
  go_ret
  exact ⟨w.heap.size+1,rfl,M0.out,by omega,(zb_ _ _).trans ((zb_ _ _).mono (by simp))⟩
theorem rj_ (j:Int) (w:World):Calls Tryz.prog 42 #[.agg #[.int .i64 j,.int .i64 0,.int .i64 0,.slice none 0 0,.slice none 0 0,.slice none 0 0,.slice none 0 0]] w fun e w'=>∃ p2 c2 p3 c3,e=.returned (.agg #[.int .i64 j,.int .i64 0,.int .i64 0,.slice none 0 0,.slice none 0 0,.slice p2 0 c2,.slice p3 0 c3])∧OwnT w' (.slice p2 0 c2) [] w.heap.size∧Below w.heap.size w w':=by
 have CD:Hid (∀ W:World,Calls Tryz.prog 92 #[.agg #[.slice none 0 0,.slice none 0 0]] W (DQ W [] [])):=fun W=>u0_ (.slice none 0 0) (.slice none 0 0) [] [] W (by simp) (by simp) ⟨none,0,rfl,by simp,.inl rfl⟩ ⟨none,0,rfl,by simp,.inl rfl⟩
 go_enter Tryz.func42,Tryz.ntmps42
 go_wp2_with fail
 refine Calls.mono (rl_ _) ?_
 rintro e w1 ⟨rfl,rfl⟩
 go_wp2
 go_loopw [12] (fun s12 wr=>s12=.int .i64 0∧wr=((w.alloc (.cells #[.int .i64 j,.int .i64 0,.int .i64 0,.slice none 0 0,.slice none 0 0,.slice none 0 0,.slice none 0 0] 29)).alloc (.cells #[.int .i64 0,.int .i64 0,.int .i64 0,.slice none 0 0,.slice none 0 0,.slice none 0 0,.slice none 0 0] 29))) (fun _ _=>0)
 case atStart=>exact ⟨rfl,rfl⟩
 case round=>
  obtain ⟨rfl,rfl⟩:=hrel
  have X0:Hid (Box ((w.alloc (.cells #[.int .i64 j,.int .i64 0,.int .i64 0,.slice none 0 0,.slice none 0 0,.slice none 0 0,.slice none 0 0] 29)).alloc (.cells nZ.toArray 29)) w.heap.size [.int .i64 j,.int .i64 0,.int .i64 0,.slice none 0 0,.slice none 0 0,.slice none 0 0,.slice none 0 0]∧Box ((w.alloc (.cells #[.int .i64 j,.int .i64 0,.int .i64 0,.slice none 0 0,.slice none 0 0,.slice none 0 0,.slice none 0 0] 29)).alloc (.cells nZ.toArray 29)) (w.heap.size+1) nZ∧Below w.heap.size w ((w.alloc (.cells #[.int .i64 j,.int .i64 0,.int .i64 0,.slice none 0 0,.slice none 0 0,.slice none 0 0,.slice none 0 0] 29)).alloc (.cells nZ.toArray 29))):=⟨zo_.alloc,by have:=zo_ (W:=w.alloc (.cells #[.int .i64 j,.int .i64 0,.int .i64 0,.slice none 0 0,.slice none 0 0,.slice none 0 0,.slice none 0 0] 29)) (t:=29) (vs:=nZ); simpa using this,(zb_ _ _).trans ((zb_ _ _).mono (by simp))⟩
  go_upto_region 7 with fail
  generalize ((w.alloc (.cells #[.int .i64 j,.int .i64 0,.int .i64 0,.slice none 0 0,.slice none 0 0,.slice none 0 0,.slice none 0 0] 29)).alloc (.cells nZ.toArray 29))=W1 at *
  obtain ⟨b0,b1,b2,b3,b4,b5,b6⟩:=X0.out.1.c7
  obtain ⟨f0,f1,f2,f3,f4,f5,f6⟩:=X0.out.1.f7
  go_wp2_with fail
  refine Calls.mono (rk_ _) ?_
  rintro e w1 ⟨rfl,rfl⟩
  go_upto_region 8 with fail
  refine zQ_ (fun W=>Box W w.heap.size [.int .i64 j,.int .i64 0,.int .i64 0,.slice none 0 0,.slice none 0 0,.slice none 0 0,.slice none 0 0]∧Box W (w.heap.size+1) nZ∧Below w.heap.size w W) (by
   refine ⟨?_,X0.out.2.1.oth (by omega),zH_ X0.out.2.2 (Nat.le_refl _)⟩
   have:=X0.out.1.set (i:=4) (u:=.slice none 0 0) (by simp)
   simpa using this) (fun W2 hI=>?_)
  clear b0 b1 b2 b3 b4 b5 b6 f0 f1 f2 f3 f4 f5 f6 X0
  have X2:=hm_ hI
  clear hI
  obtain ⟨b0,b1,b2,b3,b4,b5,b6⟩:=X2.out.1.c7
  go_wp2_with fail
  refine Calls.mono (CD.out _) ?_
  rintro e w3 ⟨p2,c2,p3,c3,rfl,hb,hO⟩
  have HO:Hid (OwnT w3 (.slice p2 0 c2) [] W2.heap.size):=⟨hO.r0,fun k hk=>(hO.b0 k hk).1⟩
  have X3:Hid (Box w3 w.heap.size [.int .i64 j,.int .i64 0,.int .i64 0,.slice none 0 0,.slice none 0 0,.slice none 0 0,.slice none 0 0]∧Box w3 (w.heap.size+1) nZ∧Below w.heap.size w w3∧w.heap.size+1 < W2.heap.size):=⟨X2.out.1.next hb,X2.out.2.1.next hb,X2.out.2.2.trans (hb.mono X2.out.2.2.size),X2.out.2.1.lt⟩
  clear b0 b1 b2 b3 b4 b5 b6 hb hO X2
  obtain ⟨b0,b1,b2,b3,b4,b5,b6⟩:=X3.out.1.c7
  obtain ⟨f0,f1,f2,f3,f4,f5,f6⟩:=X3.out.1.f7
  obtain ⟨a0,a1,a2,a3,a4,a5,a6⟩:=X3.out.2.1.c7
  obtain ⟨g0,g1,g2,g3,g4,g5,g6⟩:=X3.out.2.1.f7
  simp only [List.length_nil]
  go_wp2
  refine bodyPost_ret (v:=.agg #[.int .i64 j,.int .i64 0,.int .i64 0,.slice none 0 0,.slice none 0 0,.slice p2 0 c2,.slice p3 0 c3]) (by simp [results,Tryz.results42,go_sem, *]) rfl ?_
  have hl:=X3.out.2.2.2
  refine ⟨p2,c2,p3,c3,rfl,⟨?_,fun k hk=>by have:=HO.out.ge k hk; omega⟩,?_⟩
  ·have hG:OwnG w3 9 1 (.slice p2 0 c2) 0 (V []) W2.heap.size:=⟨HO.out.own,HO.out.ge⟩
   have hs:∀ (V1:World) (b i:Nat) (u:Value),b < W2.heap.size→OwnG V1 9 1 (.slice p2 0 c2) 0 (V []) W2.heap.size→OwnG (V1.setCell ⟨b,i,none⟩ u) 9 1 (.slice p2 0 c2) 0 (V []) W2.heap.size:=fun V1 b i u hb h=>h.kp Kp.set (fun k hk e=>by have:=h.ge k hk; omega)
   exact (by
    repeat (with_reducible refine hs _ _ _ _ (by omega) ?_)
    with_reducible exact hG:OwnG _ 9 1 (.slice p2 0 c2) 0 (V []) W2.heap.size).own
  ·repeat (with_reducible refine zH_ ?_ (by omega))
   with_reducible exact X3.out.2.2.1
def DrP (w:World) (j:Int) (e:Ending) (w':World):Prop:=∃ g mb p2 c2 p3 c3,e=.returned (.pointer (some ⟨g,0,none⟩))∧Box w' g [.int .i64 j,.int .i64 0,.int .i64 0,.slice none 0 0,.slice none 0 0,.slice p2 0 c2,.slice p3 0 c3,.map (some mb)]∧MapF w' Tryz.prog 9 mb 0 (fun _=>none)∧OwnT w' (.slice p2 0 c2) [] w.heap.size∧(∀ k,(Value.slice p2 0 c2).ownBlock=some k→k < mb)∧(w.heap.size≤mb∧mb < g)∧Below w.heap.size w w'
theorem qC_ (j:Int) (w:World):Calls Tryz.prog 93 #[.agg #[.int .i64 j,.int .i64 0,.int .i64 0,.slice none 0 0,.slice none 0 0,.slice none 0 0,.slice none 0 0]] w (DrP w j):=by
 have X0:Hid (Box (w.alloc (.cells #[.int .i64 j,.int .i64 0,.int .i64 0,.slice none 0 0,.slice none 0 0,.slice none 0 0,.slice none 0 0] 29)) w.heap.size [.int .i64 j,.int .i64 0,.int .i64 0,.slice none 0 0,.slice none 0 0,.slice none 0 0,.slice none 0 0]∧Below w.heap.size w (w.alloc (.cells #[.int .i64 j,.int .i64 0,.int .i64 0,.slice none 0 0,.slice none 0 0,.slice none 0 0,.slice none 0 0] 29))):=⟨zo_,zb_ _ _⟩
 go_enter Tryz.func93,Tryz.ntmps93
 go_upto_region 1 with fail
 generalize w.alloc (.cells #[.int .i64 j,.int .i64 0,.int .i64 0,.slice none 0 0,.slice none 0 0,.slice none 0 0,.slice none 0 0] 29)=W0 at *
 refine wp_region_held_drew (S:=(fun w'=>w'.cell? ⟨w.heap.size,0,none⟩=some (.int .i64 j)∧w'.cell? ⟨w.heap.size,1,none⟩=some (.int .i64 0)∧w'.cell? ⟨w.heap.size,2,none⟩=some (.int .i64 0)∧w'.cell? ⟨w.heap.size,3,none⟩=some (.slice none 0 0)∧w'.cell? ⟨w.heap.size,4,none⟩=some (.slice none 0 0)∧w'.cell? ⟨w.heap.size,5,none⟩=some (.slice none 0 0)∧w'.cell? ⟨w.heap.size,6,none⟩=some (.slice none 0 0))) (by kernel_rfl) ?_ (fun hH=>?_)
 ·(try dsimp only)
  exact (X0.out.1.next (zc_ _)).c7
 have BW:Hid (Below W0.heap.size W0 W0.drew):=zc_ _
 refine wTk 0 ?_
 refine wTk 2 ?_
 generalize W0.drew=wd at *
 refine wRd 1 (fun K hK=>?_)
 go_simp
 go_at_call 42
 refine (rj_ j _).mono ?_
 rintro e x0 ⟨p2,c2,p3,c3,rfl,hO,hb⟩
 (try simp only [])
 have HO:Hid (OwnT x0 (.slice p2 0 c2) [] w.heap.size):=⟨hO.own,fun k hk=>Nat.le_trans (Nat.le_trans X0.out.2.size BW.out.size) (hO.ge k hk)⟩
 replace BW:=ze_ BW hb
 clear hb hO
 refine wHk hK ((X0.out.1.next BW.out).c7) ?_
 clear hK K hH
 intro hH
 refine wRd 3 (fun K hK=>?_)
 go_simp
 go_at_call 87
 refine (qN_ j _).mono ?_
 rintro e x1 ⟨mb,rfl,hM,hmb,hb⟩
 (try simp only [])
 have HM:Hid (MapF x1 Tryz.prog 9 mb 0 (fun _=>none)∧(∀ k,(Value.slice p2 0 c2).ownBlock=some k→k < mb)∧w.heap.size≤mb):=⟨hM,fun k hk=>Nat.lt_of_lt_of_le (HO.out.lt k hk).2 hmb,Nat.le_trans (Nat.le_trans X0.out.2.size BW.out.size) hmb⟩
 replace HO:Hid _:=HO.out.next hb
 replace BW:=ze_ BW hb
 clear hM hmb hb
 refine wHk hK ((X0.out.1.next BW.out).c7) ?_
 clear hK K hH
 intro hH
 refine wTk 4 ?_
 refine wRd 5 (fun K hK=>?_)
 go_simp
 (try simp only [])
 have DX:Hid (Box (x1.alloc (.cells #[.int .i64 j,.int .i64 0,.int .i64 0,.slice none 0 0,.slice none 0 0,.slice p2 0 c2,.slice p3 0 c3,.map (some mb)] 135)) x1.heap.size [.int .i64 j,.int .i64 0,.int .i64 0,.slice none 0 0,.slice none 0 0,.slice p2 0 c2,.slice p3 0 c3,.map (some mb)]∧mb < x1.heap.size):=⟨zo_,HM.out.1.lt⟩
 have PX:Hid (MapF (x1.alloc (.cells #[.int .i64 j,.int .i64 0,.int .i64 0,.slice none 0 0,.slice none 0 0,.slice p2 0 c2,.slice p3 0 c3,.map (some mb)] 135)) Tryz.prog 9 mb 0 (fun _=>none)∧OwnT (x1.alloc (.cells #[.int .i64 j,.int .i64 0,.int .i64 0,.slice none 0 0,.slice none 0 0,.slice p2 0 c2,.slice p3 0 c3,.map (some mb)] 135)) (.slice p2 0 c2) [] w.heap.size):=⟨HM.out.1.next (zb_ _ _),HO.out.next (zb_ _ _)⟩
 replace BW:=ze_ BW (zb_ x1 (.cells #[.int .i64 j,.int .i64 0,.int .i64 0,.slice none 0 0,.slice none 0 0,.slice p2 0 c2,.slice p3 0 c3,.map (some mb)] 135))
 refine wHk hK ((X0.out.1.next BW.out).c7) ?_
 clear hK K hH
 intro hH
 refine wTk 6 ?_
 refine wDn ?_
 clear hH
 generalize x1.alloc (.cells #[.int .i64 j,.int .i64 0,.int .i64 0,.slice none 0 0,.slice none 0 0,.slice p2 0 c2,.slice p3 0 c3,.map (some mb)] 135)=x2 at *
 generalize x1.heap.size=g at *
 obtain ⟨b0,b1,b2,b3,b4,b5,b6,b7⟩:=DX.out.1.c8
 obtain ⟨f0,f1,f2,f3,f4,f5,f6,f7⟩:=DX.out.1.f8
 go_wp2
 go_ret
 have hmg:=DX.out.2
 refine ⟨g,mb,p2,c2,p3,c3,rfl,?_,PX.out.1.kp Kp.set (by omega),⟨?_,PX.out.2.ge⟩,HM.out.2.1,⟨HM.out.2.2,hmg⟩,zH_ (X0.out.2.trans (BW.out.mono X0.out.2.size)) (by have:=HM.out.2.2; omega)⟩
 ·have:=DX.out.1.set (i:=3) (u:=.slice none 0 0) (by simp)
  simpa using this
 ·have hG:OwnG x2 9 1 (.slice p2 0 c2) 0 (V []) w.heap.size:=⟨PX.out.2.own,PX.out.2.ge⟩
  exact (hG.kp Kp.set (fun k hk e=>by have:=HM.out.2.1 k hk; omega)).own
theorem tl_ (lo:Nat) (o:No) (rs:List (Bool × Cl)) (w:World) (hd:o.su++o.un=(zy_ rs).map zs_) (hn:rs.length≤300) (hz:∀ s ∈ o.su++o.un,s.size≤1048576) (h0:NoR lo w o) (ht:TB w) (hmx:MX w) :
  Calls Tryz.prog 55 #[nV o] w fun e w'=>∃ p c,e=.returned (.tuple #[.slice p (zy_ rs).length c,.bool true])∧TRow w' p (zy_ rs)∧(zy_ rs).length≤c∧Below w.heap.size w w':=by
 (try unfold nV)
 have hlen:o.su.length+o.un.length=rs.length:=by have:=congrArg List.length hd; simpa [zy_] using this
 have hrl:(zy_ rs).length=rs.length:=by simp [zy_]
 have CS:Hid (∀ W,Below w.heap.size w W→Calls Tryz.prog 109 #[.agg #[.slice o.p2 o.su.length o.c2,.slice o.p3 o.un.length o.c3]] W (DP W 0 ((zy_ rs).map zs_) [])):=fun W hW=>by
  have h:=uR_ (.slice o.p2 o.su.length o.c2) (.slice o.p3 o.un.length o.c3) o.su o.un W (by omega) (by omega) (h0.next hW).row.1 (h0.next hW).row.2
  rw [if_pos (by omega),if_pos (by omega),hd] at h
  exact h
 have CR:Hid (∀ W v0 v1,Below w.heap.size w W→RowV W v0 ((zy_ rs).map zs_)→RowV W v1 []→Calls Tryz.prog 21 #[.agg #[v0,v1]] W (RP W 0 (zy_ rs))):=fun W v0 v1 hW h1 h2=>by
  have h:=tF_ v0 v1 ((zy_ rs).map zs_) [] W (by simp [hrl]; omega) (by simp) (by rw [← hd]; exact hz) h1 h2 (ht.next hW) (hmx.next hW)
  rw [if_pos (by simp [hrl]; omega),if_pos (by simp [hrl]; omega),uA_] at h
  exact h
 have X0:Hid (Box (w.alloc (.cells (nL o).toArray 29)) w.heap.size (nL o)∧Below w.heap.size w (w.alloc (.cells (nL o).toArray 29))):=⟨zo_,zb_ _ _⟩
 obtain ⟨m,hm⟩:∃ m,m=(zy_ rs).length:=⟨_,rfl⟩
 have hm3:m≤300:=by omega
 have HM:=hm_ hm
 clear hd hz h0 ht hmx hlen hrl hn
 rw [← hm]
 clear hm
 go_enter Tryz.func55,Tryz.ntmps55
 go_upto_region 1 with fail
 generalize w.alloc (.cells (nL o).toArray 29)=W0 at *
 obtain ⟨b0,b1,b2,b3,b4,b5,b6⟩:=X0.out.1.c7
 go_wp2_with fail
 refine Calls.mono (CS.out _ X0.out.2) ?_
 rintro e w1 ⟨p0,c0,p1,c1,rfl,hb,hO⟩
 have HO:Hid (RowV w1 (.slice p0 m c0) ((zy_ rs).map zs_)∧RowV w1 (.slice p1 0 c1) []∧Below w.heap.size w w1):=by
  obtain ⟨q0,d0,e0,hd0,hg0⟩:=yH_ ⟨hO.r0,fun k hk=>(hO.b0 k hk).1⟩
  cases e0
  have e:((zy_ rs).map zs_).length=m:=by rw [HM.out]; simp
  rw [← e]
  exact ⟨⟨p0,c0,rfl,hd0,t7_ hO.r0⟩,⟨p1,c1,rfl,by simp,.inl rfl⟩,X0.out.2.trans (hb.mono X0.out.2.size)⟩
 have hmm:((zy_ rs).map zs_).length=m:=by rw [HM.out]; simp
 rw [hmm]
 clear b0 b1 b2 b3 b4 b5 b6 hb hO hmm CS X0
 simp only [List.length_nil]
 go_upto_region 4 with fail
 refine zQ_ (fun W=>Box W w1.heap.size [.slice p0 m c0,.slice p1 0 c1]∧RowV W (.slice p0 m c0) ((zy_ rs).map zs_)∧RowV W (.slice p1 0 c1) []∧Below w.heap.size w W) ⟨zo_,HO.out.1.next (zb_ _ _),HO.out.2.1.next (zb_ _ _),HO.out.2.2.trans ((zb_ _ _).mono HO.out.2.2.size)⟩ (fun W2 hI=>?_)
 clear HO
 generalize w1.heap.size=g4 at *
 have H2:=hm_ hI
 clear hI
 obtain ⟨b0,b1⟩:=H2.out.1.c2
 go_wp2_with fail
 refine Calls.mono (CR.out _ _ _ H2.out.2.2.2 H2.out.2.1 H2.out.2.2.1) ?_
 rintro e w3 ⟨p,c,rfl,hb,hO⟩
 have H3:Hid (Box w3 g4 [.slice p0 m c0,.slice p1 0 c1]∧OwnT w3 (.slice p (zy_ rs).length c) (zy_ rs) W2.heap.size∧Below w.heap.size w w3):=⟨H2.out.1.next hb,hO,H2.out.2.2.2.trans (hb.mono H2.out.2.2.2.size)⟩
 rw [← HM.out]
 clear b0 b1 hb hO CR H2
 obtain ⟨b0,b1⟩:=H3.out.1.c2
 go_upto_region 5 with fail
 go_region
 go_wp2
 go_ret2
 obtain ⟨q,d,e,hd,hg⟩:=yH_ H3.out.2.1
 cases e
 have hd':m≤c:=by rw [HM.out]; exact hd
 have hT:=t7_ H3.out.2.1.own
 have hB:=H3.out.2.2
 first
 | exact ⟨p,c,rfl,hT,hd',hB⟩
 | exact ⟨p,c,rfl,hT.next (zc_ _),hd',hB.trans ((zc_ _).mono hB.size)⟩
 | exact ⟨p,c,rfl,hT.next (xE_ _ _),hd',hB.trans ((xE_ _ _).mono hB.size)⟩
end Go.Proofs.YtiokjphefpicbaaGreatDoor
