/- Nodes, part 11 of the law FnTake. -/
import Derived.Test.YtijcjhcgpmnchaaGreatDoorM09
import Derived.Deep.Cut
import Derived.Shelf.RegionOpenPlain
namespace Go.Proofs.YtijcjhcgpmnchaaGreatDoor
open Go.RowKit
set_option maxRecDepth 100000
set_option maxHeartbeats 16000000
set_option linter.unusedSimpArgs false
set_option linter.unusedVariables false
section
variable {W W' W0 w:World} {a c r x y z:Int} {ao:Option Addr} {cap g n:Nat} {t:TypeId} {v v0 v1 v2 v3:Value} {xs:List Value}
theorem q0_ (h:Hid (Below w.heap.size w W)) (hb:Below W.heap.size W W'):Hid (Below w.heap.size w W'):=h.out.trans (hb.mono h.out.size)
theorem yh_:zQ_ (W.alloc (.cells #[.slice none 0 0,.int .i64 0,.int .i64 0,.int .i64 0] t)) W.heap.size 4:=fun j hj=>by
 have hj':j=0∨j=1∨j=2∨j=3:=by omega
 rcases hj' with rfl | rfl | rfl | rfl <;> exact ⟨by go_simp,by go_simp⟩
theorem s8_ {p q:Int} (h:zQ_ W g 4):wu_ ((((W.setCell ⟨g,0,none⟩ v).setCell ⟨g,1,none⟩ (.int .i64 p)).setCell ⟨g,2,none⟩ (.int .i64 q)).setCell ⟨g,3,none⟩ (.int .i64 r)) g v p q r:=by
 obtain ⟨v0,y0⟩:=isx (h 0 (by omega)).1;obtain ⟨v1,y1⟩:=isx (h 1 (by omega)).1;obtain ⟨v2,y2⟩:=isx (h 2 (by omega)).1;obtain ⟨v3,y3⟩:=isx (h 3 (by omega)).1;exact ⟨zw_ (zw_ (zw_ (zI_ y0) (by omega)) (by omega)) (by omega),zw_ (zw_ (zI_ (zw_ y1 (by omega))) (by omega)) (by omega),zw_ (zI_ (zw_ (zw_ y2 (by omega)) (by omega))) (by omega),zI_ (zw_ (zw_ (zw_ y3 (by omega)) (by omega)) (by omega))⟩
theorem ry_ (h:Below w.heap.size w W) (hg:w.heap.size<=g):Below w.heap.size w ((((W.setCell ⟨g,0,none⟩ v0).setCell ⟨g,1,none⟩ v1).setCell ⟨g,2,none⟩ v2).setCell ⟨g,3,none⟩ v3):=
 (((h.setCell (by simpa using hg) _).setCell (by simpa using hg) _).setCell (by simpa using hg) _).setCell (by simpa using hg) _
theorem xQ_ {e:TypeId} (h:W.ownsRow 0 e 4 v n xs) (hne:v.ownBlock≠some g):((((W.setCell ⟨g,0,none⟩ v0).setCell ⟨g,1,none⟩ v1).setCell ⟨g,2,none⟩ v2).setCell ⟨g,3,none⟩ v3).ownsRow 0 e 4 v n xs:=
 ownsRow_setCell_other (ownsRow_setCell_other (ownsRow_setCell_other (ownsRow_setCell_other h hne _) hne _) hne _) hne _
def WB (g:Nat) (W:World) (v:Value) (a b c x y z:Int) (s:Sib):Prop:=wu_ W g v a b c∧q6_ W (g+1) x y z∧x9_ W (g+1+1) 0 s∧zQ_ W (g+1+1+1) 4∧g+1+1+1 < W.heap.size
theorem WB.next {b:Int} {s:Sib} (h:WB g W v a b c x y z s) (hb:Below W.heap.size W W'):WB g W' v a b c x y z s:=
 ⟨yV_ h.1 hb (Nat.lt_trans (by omega) h.2.2.2.2),o5_ h.2.1 hb (Nat.lt_trans (by omega) h.2.2.2.2),⟨za_ hb h.2.2.1.1 (Nat.lt_trans (by omega) h.2.2.2.2),za_ hb h.2.2.1.2.1 (Nat.lt_trans (by omega) h.2.2.2.2),za_ hb h.2.2.1.2.2.1 (Nat.lt_trans (by omega) h.2.2.2.2),za_ hb h.2.2.1.2.2.2 (Nat.lt_trans (by omega) h.2.2.2.2)⟩,h.2.2.2.1.next hb h.2.2.2.2,Nat.lt_of_lt_of_le h.2.2.2.2 hb.size⟩
theorem WB.new {b:Int} {s:Sib} {t1 t2:TypeId}:WB w.heap.size ((((w.alloc (.cells #[.slice ao n cap,.int .i64 a,.int .i64 b,.int .i64 c] t)).alloc (.cells #[.int .i64 x,.int .i64 y,.int .i64 z] t1)).alloc (.cells #[.int .i64 s.p,.int .i64 s.n,.int .i64 s.v,.bool s.d] t2)).alloc (.cells #[.slice none 0 0,.int .i64 0,.int .i64 0,.int .i64 0] t)) (.slice ao n cap) a b c x y z s:=by
 refine ⟨⟨by go_simp,by go_simp,by go_simp,by go_simp⟩,⟨by go_simp,by go_simp,by go_simp⟩,⟨by go_simp,by go_simp,by go_simp,by go_simp⟩,fun j hj=>?_,by simp⟩;have hj':j=0∨j=1∨j=2∨j=3:=by omega
 rcases hj' with rfl | rfl | rfl | rfl <;> exact ⟨by go_simp,by go_simp⟩
theorem ve_ {gz g0:Nat} {p q:Int} (hO:Own W0 W 89 (.slice (some ⟨g0,0,none⟩) 0 0) 0 []) (hT:zQ_ W gz 4) (hl:gz < W.heap.size) (hge:W0.heap.size<=gz) (hne:g0≠gz):JS W0 ((((W.setCell ⟨gz,0,none⟩ (.slice (some ⟨g0,0,none⟩) 0 0)).setCell ⟨gz,1,none⟩ (.int .i64 p)).setCell ⟨gz,2,none⟩ (.int .i64 q)).setCell ⟨gz,3,none⟩ (.int .i64 r)) gz (some ⟨g0,0,none⟩) 0 0 p q r []:=by
 have hn:(Value.slice (some ⟨g0,0,none⟩) 0 0).ownBlock≠some gz:=fun e=>hne (by simpa [Value.ownBlock] using e)
 exact ⟨⟨xQ_ hO.1 hn,ry_ hO.2.1 hge,hO.2.2⟩,rfl,Nat.le_refl _,⟨s8_ hT,hT.set.set.set.set,by simpa [World.setCell] using hl⟩,hn,hge⟩
section
variable {P:Program}
theorem uF_ {ops:Array Oper} {w:World} {o:Oper} {a:Act} {K:Act->World->Prop} {Q:Exit->Act->World->Prop} {E:Prop} (hgd:o.guard=none) (s x:Operand) (t:TypeId)
  (ho:o.op=.call { callee:=.builtin .append,args:=#[s,x],argTypes:=#[t,t] })
  (e:TypeId) (i:TypeInfo) (z:Value) (bytes:Nat) (ht:P.underlying t=some (.slice e)) (hi:P.info? e=some i) (hz:i.zero=some z)
  (hsize:i.size=4) (hby:i.bytes=bytes) (hzs:z.cells.size=4)
  (v:Value) (n:Nat) (xs:List Value) (hs:a.eval s=v) (hown:w.ownsRow 0 e 4 v n xs)
  (ao:Option Addr) (m c:Nat) (l:List Sib) (hx:a.eval x=.slice ao m c) (hsrc:zG_ w ao m l)
  (h63:n+m<=maxLen) (hbytes:(n+m) * bytes<=140737488355328)
  (h:∀ v' w',w'.ownsRow 0 e 4 v' (n+m) (xs++flat l)->Gro w w' v v'->K (a.put o.dst v') w'):if Region.wanted o (yielded ops a.tmps)=true then Oper.wp P o a w K Q else E:=by
 have hw:Region.wanted o (yielded ops a.tmps)=true:=by simp [Region.wanted,hgd]
 rw [if_pos hw];exact zr_ s x t ho e i z bytes ht hi hz hsize hby hzs v n xs hs hown ao m c l hx hsrc h63 hbytes h
end
theorem zV_ {b:Int} {s:Sib} (h:WB g W v a b c x y z s):(W.cell? ⟨g,1,none⟩=some (.int .i64 a)∧W.cell? ⟨g,2,none⟩=some (.int .i64 b)∧W.cell? ⟨g,3,none⟩=some (.int .i64 c))∧(W.cell? ⟨g+1,0,none⟩=some (.int .i64 x)∧W.cell? ⟨g+1,1,none⟩=some (.int .i64 y)∧W.cell? ⟨g+1,2,none⟩=some (.int .i64 z))∧(W.cell? ⟨g+1+1,0,none⟩=some (.int .i64 s.p)∧W.cell? ⟨g+1+1,1,none⟩=some (.int .i64 s.n)):=
 ⟨h.1.2,h.2.1,h.2.2.1.1,h.2.2.1.2.1⟩
theorem u5_ (cap:Nat) (ao:Option Addr) (l:List Sib) (a b c x y z P Q R:Int) (s:Sib) (w:World) (hm:(l.length:Int)<=100000) (hn1:∀ i (h:i < l.length),0<=l[i].p∧l[i].p < 3) (hr0:zk_ w ao l)
  (CA:Hid (∀ W,Calls Tryz.prog 150 #[.agg #[.int .i64 (max a x),.int .i64 (max b y),.int .i64 (max c z)],.agg #[.int .i64 s.p,.int .i64 s.n]] W fun e w'=>e=.returned (.agg #[.int .i64 P,.int .i64 Q,.int .i64 R])∧Below W.heap.size W w')) :
  Calls Tryz.prog 101 #[.agg #[.slice ao l.length cap,.int .i64 a,.int .i64 b,.int .i64 c],.agg #[.int .i64 x,.int .i64 y,.int .i64 z],.agg #[.int .i64 s.p,.int .i64 s.n,.int .i64 s.v,.bool s.d]] w fun e w'=>∃ v,e=.returned (.agg #[v,.int .i64 P,.int .i64 Q,.int .i64 R])∧Gro w w' (.slice none 0 0) v∧w'.ownsRow 0 89 4 v (pt s (fil x y z l)).length (flat (pt s (fil x y z l))):=by
 have CM:Hid (∀ W,Calls Tryz.prog 151 #[.agg #[.int .i64 a,.int .i64 b,.int .i64 c],.agg #[.int .i64 x,.int .i64 y,.int .i64 z]] W fun e w'=>e=.returned (.agg #[.int .i64 (max a x),.int .i64 (max b y),.int .i64 (max c z)])∧Below W.heap.size W w'):=fun W=>sl_ a b c x y z (max a x) (max b y) (max c z) W (by omega) (by omega) (by omega)
 generalize max a x=mA at *;generalize max b y=mB at *;generalize max c z=mC at *;have RA:Hid (zk_ ((((w.alloc (.cells #[.slice ao l.length cap,.int .i64 a,.int .i64 b,.int .i64 c] 37)).alloc (.cells #[.int .i64 x,.int .i64 y,.int .i64 z] 35)).alloc (.cells #[.int .i64 s.p,.int .i64 s.n,.int .i64 s.v,.bool s.d] 89)).alloc (.cells #[.slice none 0 0,.int .i64 0,.int .i64 0,.int .i64 0] 37)) ao l):=zM_ (zM_ (zM_ (zM_ hr0 (zb_ _ _)) (zb_ _ _)) (zb_ _ _)) (zb_ _ _);have JB1:Hid (WB w.heap.size ((((w.alloc (.cells #[.slice ao l.length cap,.int .i64 a,.int .i64 b,.int .i64 c] 37)).alloc (.cells #[.int .i64 x,.int .i64 y,.int .i64 z] 35)).alloc (.cells #[.int .i64 s.p,.int .i64 s.n,.int .i64 s.v,.bool s.d] 89)).alloc (.cells #[.slice none 0 0,.int .i64 0,.int .i64 0,.int .i64 0] 37)) (.slice ao l.length cap) a b c x y z s):=WB.new;have GW:Hid (Gro w ((((w.alloc (.cells #[.slice ao l.length cap,.int .i64 a,.int .i64 b,.int .i64 c] 37)).alloc (.cells #[.int .i64 x,.int .i64 y,.int .i64 z] 35)).alloc (.cells #[.int .i64 s.p,.int .i64 s.n,.int .i64 s.v,.bool s.d] 89)).alloc (.cells #[.slice none 0 0,.int .i64 0,.int .i64 0,.int .i64 0] 37)) (.slice none 0 0) (.slice none 0 0)):=(Gro.of_below (zb_ _ _)).trans ((Gro.of_below (zb_ _ _)).trans ((Gro.of_below (zb_ _ _)).trans (Gro.of_below (zb_ _ _))));have HN1:=hm_ hn1;clear hr0 hn1;obtain ⟨i0,hi,hz0,hz1,hz2⟩:=info_parts yG_;have HI:Hid (Tryz.prog.info? 89=some i0∧i0.zero=some (.agg #[.int .i64 0,.int .i64 0,.int .i64 0,.bool false])∧i0.size=4∧i0.bytes=32):=⟨hi,hz0,hz1,hz2⟩;clear hi hz0 hz1 hz2;have mixed:Tryz.prog.follows Departure.mixedOrders=true:=by kernel_rfl
 go_enter Tryz.func101,Tryz.ntmps101;go_upto_region 1 with fail;generalize ((((w.alloc (.cells #[.slice ao l.length cap,.int .i64 a,.int .i64 b,.int .i64 c] 37)).alloc (.cells #[.int .i64 x,.int .i64 y,.int .i64 z] 35)).alloc (.cells #[.int .i64 s.p,.int .i64 s.n,.int .i64 s.v,.bool s.d] 89)).alloc (.cells #[.slice none 0 0,.int .i64 0,.int .i64 0,.int .i64 0] 37))=W0 at *
 go_cut [7] from 9 (fun s7 wc=>∃ (ob:Nat) (vo:Option Addr),s7=.pointer (some ⟨ob,0,none⟩)∧JS W0 wc ob vo 0 0 P Q R [])
 case first=>
  refine wp_region_held_drew (S:=(fun w'=>((w'.cell? ⟨w.heap.size,1,none⟩=some (.int .i64 a)∧w'.cell? ⟨w.heap.size,2,none⟩=some (.int .i64 b)∧w'.cell? ⟨w.heap.size,3,none⟩=some (.int .i64 c))∧(w'.cell? ⟨w.heap.size+1,0,none⟩=some (.int .i64 x)∧w'.cell? ⟨w.heap.size+1,1,none⟩=some (.int .i64 y)∧w'.cell? ⟨w.heap.size+1,2,none⟩=some (.int .i64 z))∧(w'.cell? ⟨w.heap.size+1+1,0,none⟩=some (.int .i64 s.p)∧w'.cell? ⟨w.heap.size+1+1,1,none⟩=some (.int .i64 s.n)))∧Below W0.heap.size W0 w')) (by kernel_rfl) ?_ (fun hH=>?_)
  ·(try dsimp only);exact ⟨zV_ (JB1.out.next (zd_ _)),zd_ _⟩
  refine wTk 1 ?_;refine wTk 2 ?_;refine wTk 3 ?_;refine wTk 5 ?_;refine wTk 6 ?_;have HBs:Hid (Below W0.heap.size W0 W0.drew):=zd_ _;generalize W0.drew=wd at *;refine wpAnyH_ready (rs:=[0,4,9]) (by kernel_rfl) (by simp) ?_;refine .cons rfl (fun K hK=>?_) (.cons rfl (fun K hK=>?_) (.cons rfl (fun K hK=>?_) .nil))
  ·refine wLy ?_;go_simp;(try simp only []);have hb:=zb_ wd (.cells #[] 89);have HBn:Below W0.heap.size W0 (wd.alloc (.cells #[] 89)):=HBs.out.trans (hb.mono HBs.out.size);have OW:Hid (Own W0 (wd.alloc (.cells #[] 89)) 89 (.slice (some ⟨wd.heap.size,0,none⟩) 0 0) 0 []):=Own.lit HBs.out;refine hK.out _ _ ?_ (fun hH'=>?_)
   ·(try dsimp only);exact ⟨zV_ (JB1.out.next HBn),HBn⟩
   clear hK K hH;have hH:=hH';clear hH';have HB1:=hm_ HBn;clear HBn hb;generalize (wd.alloc (.cells #[] 89))=wn1 at *;have OL:Hid (wd.heap.size < wn1.heap.size):=(OW.out.1.lt _ rfl).2;refine wLy ?_;refine wpAnyH_ready (rs:=[4,9]) (by kernel_rfl) (by simp) ?_;refine .cons rfl (fun K hK=>?_) (.cons rfl (fun K hK=>?_) .nil)
   ·refine wLy ?_;go_simp;refine Calls.mono (CM.out _) ?_;rintro e wn2 ⟨rfl,hb⟩;have HBn:Below W0.heap.size W0 wn2:=HB1.out.trans (hb.mono HB1.out.size);replace OW:Hid (Own W0 wn2 89 (.slice (some ⟨wd.heap.size,0,none⟩) 0 0) 0 []):=Own.step (show Own W0 _ 89 _ 0 [] from OW.out) hb
    refine hK.out _ _ ?_ (fun hH'=>?_)
    ·(try dsimp only);exact ⟨zV_ (JB1.out.next HBn),HBn⟩
    clear hK K hH;have hH:=hH';clear hH';have HB2:=hm_ HBn;clear HBn hb;have OL:Hid (wd.heap.size < wn2.heap.size):=(OW.out.1.lt _ rfl).2;refine wLy ?_;refine wpAnyH_ready (rs:=[7,9]) (by kernel_rfl) (by simp) ?_;refine .cons rfl (fun K hK=>?_) (.cons rfl (fun K hK=>?_) .nil)
    focus
     refine wLy ?_;go_simp;refine Calls.mono (CA.out _) ?_;rintro e wn3 ⟨rfl,hb⟩;have HBn:Below W0.heap.size W0 wn3:=HB2.out.trans (hb.mono HB2.out.size);replace OW:Hid (Own W0 wn3 89 (.slice (some ⟨wd.heap.size,0,none⟩) 0 0) 0 []):=Own.step (show Own W0 _ 89 _ 0 [] from OW.out) hb
     refine hK.out _ _ ?_ (fun hH'=>?_)
     ·(try dsimp only);exact ⟨zV_ (JB1.out.next HBn),HBn⟩
     clear hK K hH;have hH:=hH';clear hH';have HB3:=hm_ HBn;clear HBn hb;have OL:Hid (wd.heap.size < wn3.heap.size):=(OW.out.1.lt _ rfl).2;refine wLy ?_;refine wTk 8 ?_;refine wRd 9 (fun K hK=>?_);go_simp;(try simp only []);have hb:=zb_ wn3 (.cells #[.slice none 0 0,.int .i64 0,.int .i64 0,.int .i64 0] 37);have HBn:Below W0.heap.size W0 (wn3.alloc (.cells #[.slice none 0 0,.int .i64 0,.int .i64 0,.int .i64 0] 37)):=HB3.out.trans (hb.mono HB3.out.size);replace OW:Hid (Own W0 (wn3.alloc (.cells #[.slice none 0 0,.int .i64 0,.int .i64 0,.int .i64 0] 37)) 89 (.slice (some ⟨wd.heap.size,0,none⟩) 0 0) 0 []):=Own.step (show Own W0 _ 89 _ 0 [] from OW.out) hb
     have TH:Hid (zQ_ (wn3.alloc (.cells #[.slice none 0 0,.int .i64 0,.int .i64 0,.int .i64 0] 37)) wn3.heap.size 4):=yh_;have LG:Hid (wn3.heap.size < (wn3.alloc (.cells #[.slice none 0 0,.int .i64 0,.int .i64 0,.int .i64 0] 37)).heap.size):=z8_;have GE:Hid (W0.heap.size<=wn3.heap.size):=HB3.out.size;have NV:Hid (wd.heap.size≠wn3.heap.size):=fun e=>by have:=OL.out; omega
     refine hK.out _ _ ?_ (fun hH'=>?_)
     ·(try dsimp only);exact ⟨zV_ (JB1.out.next HBn),HBn⟩
     clear hK K hH;have hH:=hH';clear hH';have HB4:=hm_ HBn;clear HBn hb;generalize (wn3.alloc (.cells #[.slice none 0 0,.int .i64 0,.int .i64 0,.int .i64 0] 37))=wn4 at *;have OL:Hid (wd.heap.size < wn4.heap.size):=(OW.out.1.lt _ rfl).2;have LG0:=LG;refine wLy ?_
    rotate_left
    focus
     refine wLy ?_;go_simp;(try simp only []);have hb:=zb_ wn2 (.cells #[.slice none 0 0,.int .i64 0,.int .i64 0,.int .i64 0] 37);have HBn:Below W0.heap.size W0 (wn2.alloc (.cells #[.slice none 0 0,.int .i64 0,.int .i64 0,.int .i64 0] 37)):=HB2.out.trans (hb.mono HB2.out.size);replace OW:Hid (Own W0 (wn2.alloc (.cells #[.slice none 0 0,.int .i64 0,.int .i64 0,.int .i64 0] 37)) 89 (.slice (some ⟨wd.heap.size,0,none⟩) 0 0) 0 []):=Own.step (show Own W0 _ 89 _ 0 [] from OW.out) hb
     have TH:Hid (zQ_ (wn2.alloc (.cells #[.slice none 0 0,.int .i64 0,.int .i64 0,.int .i64 0] 37)) wn2.heap.size 4):=yh_;have LG:Hid (wn2.heap.size < (wn2.alloc (.cells #[.slice none 0 0,.int .i64 0,.int .i64 0,.int .i64 0] 37)).heap.size):=z8_;have GE:Hid (W0.heap.size<=wn2.heap.size):=HB2.out.size;have NV:Hid (wd.heap.size≠wn2.heap.size):=fun e=>by have:=OL.out; omega
     refine hK.out _ _ ?_ (fun hH'=>?_)
     ·(try dsimp only);exact ⟨zV_ (JB1.out.next HBn),HBn⟩
     clear hK K hH;have hH:=hH';clear hH';have HB3:=hm_ HBn;clear HBn hb;generalize (wn2.alloc (.cells #[.slice none 0 0,.int .i64 0,.int .i64 0,.int .i64 0] 37))=wn3 at *;have OL:Hid (wd.heap.size < wn3.heap.size):=(OW.out.1.lt _ rfl).2;have LG0:=LG;refine wLy ?_;refine wRd 7 (fun K hK=>?_);go_simp;refine Calls.mono (CA.out _) ?_;rintro e wn4 ⟨rfl,hb⟩;have HBn:Below W0.heap.size W0 wn4:=HB3.out.trans (hb.mono HB3.out.size);replace OW:Hid (Own W0 wn4 89 (.slice (some ⟨wd.heap.size,0,none⟩) 0 0) 0 []):=Own.step (show Own W0 _ 89 _ 0 [] from OW.out) hb
     replace TH:=z6_ TH hb LG;replace LG:=zZ_ LG hb;refine hK.out _ _ ?_ (fun hH'=>?_)
     ·(try dsimp only);exact ⟨zV_ (JB1.out.next HBn),HBn⟩
     clear hK K hH;have hH:=hH';clear hH';have HB4:=hm_ HBn;clear HBn hb;have OL:Hid (wd.heap.size < wn4.heap.size):=(OW.out.1.lt _ rfl).2;have LG0:=LG;refine wLy ?_;refine wTk 8 ?_
    rotate_left
    all_goals
     obtain ⟨t0,T0⟩:=isx (TH.out 0 (by omega)).1;have Z0:=(TH.out 0 (by omega)).2;obtain ⟨t1,T1⟩:=isx (TH.out 1 (by omega)).1;have Z1:=(TH.out 1 (by omega)).2;obtain ⟨t2,T2⟩:=isx (TH.out 2 (by omega)).1;have Z2:=(TH.out 2 (by omega)).2;obtain ⟨t3,T3⟩:=isx (TH.out 3 (by omega)).1;have Z3:=(TH.out 3 (by omega)).2;refine wRd 10 (fun K hK=>?_);go_simp;(try simp only []);have J9:Hid _:=ve_ (p:=P) (q:=Q) (r:=R) (show Own W0 _ 89 _ 0 [] from OW.out) TH.out LG.out GE.out NV.out
     have HBn:=J9.out.own.2.1;refine hK.out _ _ ?_ (fun hH'=>?_)
     ·(try dsimp only);exact ⟨zV_ (JB1.out.next HBn),HBn⟩
     clear hK K hH HBn T0 T1 T2 T3 Z0 Z1 Z2 Z3 hH';refine wLy ?_;refine wDn ?_;go_wp2;go_meet
     case rel=>exact ⟨_,_,rfl,J9.out⟩
   ·refine wLy ?_;go_simp;(try simp only []);have hb:=zb_ wn1 (.cells #[.slice none 0 0,.int .i64 0,.int .i64 0,.int .i64 0] 37);have HBn:Below W0.heap.size W0 (wn1.alloc (.cells #[.slice none 0 0,.int .i64 0,.int .i64 0,.int .i64 0] 37)):=HB1.out.trans (hb.mono HB1.out.size);replace OW:Hid (Own W0 (wn1.alloc (.cells #[.slice none 0 0,.int .i64 0,.int .i64 0,.int .i64 0] 37)) 89 (.slice (some ⟨wd.heap.size,0,none⟩) 0 0) 0 []):=Own.step (show Own W0 _ 89 _ 0 [] from OW.out) hb
    have TH:Hid (zQ_ (wn1.alloc (.cells #[.slice none 0 0,.int .i64 0,.int .i64 0,.int .i64 0] 37)) wn1.heap.size 4):=yh_;have LG:Hid (wn1.heap.size < (wn1.alloc (.cells #[.slice none 0 0,.int .i64 0,.int .i64 0,.int .i64 0] 37)).heap.size):=z8_;have GE:Hid (W0.heap.size<=wn1.heap.size):=HB1.out.size;have NV:Hid (wd.heap.size≠wn1.heap.size):=fun e=>by have:=OL.out; omega
    refine hK.out _ _ ?_ (fun hH'=>?_)
    ·(try dsimp only);exact ⟨zV_ (JB1.out.next HBn),HBn⟩
    clear hK K hH;have hH:=hH';clear hH';have HB2:=hm_ HBn;clear HBn hb;generalize (wn1.alloc (.cells #[.slice none 0 0,.int .i64 0,.int .i64 0,.int .i64 0] 37))=wn2 at *;have OL:Hid (wd.heap.size < wn2.heap.size):=(OW.out.1.lt _ rfl).2;have LG0:=LG;refine wLy ?_;refine wRd 4 (fun K hK=>?_);go_simp;refine Calls.mono (CM.out _) ?_;rintro e wn3 ⟨rfl,hb⟩;have HBn:Below W0.heap.size W0 wn3:=HB2.out.trans (hb.mono HB2.out.size);replace OW:Hid (Own W0 wn3 89 (.slice (some ⟨wd.heap.size,0,none⟩) 0 0) 0 []):=Own.step (show Own W0 _ 89 _ 0 [] from OW.out) hb
    replace TH:=z6_ TH hb LG;replace LG:=zZ_ LG hb;refine hK.out _ _ ?_ (fun hH'=>?_)
    ·(try dsimp only);exact ⟨zV_ (JB1.out.next HBn),HBn⟩
    clear hK K hH;have hH:=hH';clear hH';have HB3:=hm_ HBn;clear HBn hb;have OL:Hid (wd.heap.size < wn3.heap.size):=(OW.out.1.lt _ rfl).2;have LG0:=LG;refine wLy ?_;refine wRd 7 (fun K hK=>?_);go_simp;refine Calls.mono (CA.out _) ?_;rintro e wn4 ⟨rfl,hb⟩;have HBn:Below W0.heap.size W0 wn4:=HB3.out.trans (hb.mono HB3.out.size);replace OW:Hid (Own W0 wn4 89 (.slice (some ⟨wd.heap.size,0,none⟩) 0 0) 0 []):=Own.step (show Own W0 _ 89 _ 0 [] from OW.out) hb
    replace TH:=z6_ TH hb LG;replace LG:=zZ_ LG hb;refine hK.out _ _ ?_ (fun hH'=>?_)
    ·(try dsimp only);exact ⟨zV_ (JB1.out.next HBn),HBn⟩
    clear hK K hH;have hH:=hH';clear hH';have HB4:=hm_ HBn;clear HBn hb;have OL:Hid (wd.heap.size < wn4.heap.size):=(OW.out.1.lt _ rfl).2;have LG0:=LG;refine wLy ?_;refine wTk 8 ?_;obtain ⟨t0,T0⟩:=isx (TH.out 0 (by omega)).1;have Z0:=(TH.out 0 (by omega)).2;obtain ⟨t1,T1⟩:=isx (TH.out 1 (by omega)).1;have Z1:=(TH.out 1 (by omega)).2;obtain ⟨t2,T2⟩:=isx (TH.out 2 (by omega)).1;have Z2:=(TH.out 2 (by omega)).2;obtain ⟨t3,T3⟩:=isx (TH.out 3 (by omega)).1;have Z3:=(TH.out 3 (by omega)).2;refine wRd 10 (fun K hK=>?_);go_simp;(try simp only []);have J9:Hid _:=ve_ (p:=P) (q:=Q) (r:=R) (show Own W0 _ 89 _ 0 [] from OW.out) TH.out LG.out GE.out NV.out
    have HBn:=J9.out.own.2.1;refine hK.out _ _ ?_ (fun hH'=>?_)
    ·(try dsimp only);exact ⟨zV_ (JB1.out.next HBn),HBn⟩
    clear hK K hH HBn T0 T1 T2 T3 Z0 Z1 Z2 Z3 hH';refine wLy ?_;refine wDn ?_;go_wp2;go_meet
    case rel=>exact ⟨_,_,rfl,J9.out⟩
  ·refine wLy ?_;go_simp;refine Calls.mono (CM.out _) ?_;rintro e wn1 ⟨rfl,hb⟩;have HBn:Below W0.heap.size W0 wn1:=HBs.out.trans (hb.mono HBs.out.size);refine hK.out _ _ ?_ (fun hH'=>?_)
   ·(try dsimp only);exact ⟨zV_ (JB1.out.next HBn),HBn⟩
   clear hK K hH;have hH:=hH';clear hH';have HB1:=hm_ HBn;clear HBn hb;refine wLy ?_;refine wpAnyH_ready (rs:=[0,7,9]) (by kernel_rfl) (by simp) ?_;refine .cons rfl (fun K hK=>?_) (.cons rfl (fun K hK=>?_) (.cons rfl (fun K hK=>?_) .nil))
   ·refine wLy ?_;go_simp;(try simp only []);have hb:=zb_ wn1 (.cells #[] 89);have HBn:Below W0.heap.size W0 (wn1.alloc (.cells #[] 89)):=HB1.out.trans (hb.mono HB1.out.size);have OW:Hid (Own W0 (wn1.alloc (.cells #[] 89)) 89 (.slice (some ⟨wn1.heap.size,0,none⟩) 0 0) 0 []):=Own.lit HB1.out;refine hK.out _ _ ?_ (fun hH'=>?_)
    ·(try dsimp only);exact ⟨zV_ (JB1.out.next HBn),HBn⟩
    clear hK K hH;have hH:=hH';clear hH';have HB2:=hm_ HBn;clear HBn hb;generalize (wn1.alloc (.cells #[] 89))=wn2 at *;have OL:Hid (wn1.heap.size < wn2.heap.size):=(OW.out.1.lt _ rfl).2;refine wLy ?_;refine wpAnyH_ready (rs:=[7,9]) (by kernel_rfl) (by simp) ?_;refine .cons rfl (fun K hK=>?_) (.cons rfl (fun K hK=>?_) .nil)
    focus
     refine wLy ?_;go_simp;refine Calls.mono (CA.out _) ?_;rintro e wn3 ⟨rfl,hb⟩;have HBn:Below W0.heap.size W0 wn3:=HB2.out.trans (hb.mono HB2.out.size);replace OW:Hid (Own W0 wn3 89 (.slice (some ⟨wn1.heap.size,0,none⟩) 0 0) 0 []):=Own.step (show Own W0 _ 89 _ 0 [] from OW.out) hb
     refine hK.out _ _ ?_ (fun hH'=>?_)
     ·(try dsimp only);exact ⟨zV_ (JB1.out.next HBn),HBn⟩
     clear hK K hH;have hH:=hH';clear hH';have HB3:=hm_ HBn;clear HBn hb;have OL:Hid (wn1.heap.size < wn3.heap.size):=(OW.out.1.lt _ rfl).2;refine wLy ?_;refine wTk 8 ?_;refine wRd 9 (fun K hK=>?_);go_simp;(try simp only []);have hb:=zb_ wn3 (.cells #[.slice none 0 0,.int .i64 0,.int .i64 0,.int .i64 0] 37);have HBn:Below W0.heap.size W0 (wn3.alloc (.cells #[.slice none 0 0,.int .i64 0,.int .i64 0,.int .i64 0] 37)):=HB3.out.trans (hb.mono HB3.out.size);replace OW:Hid (Own W0 (wn3.alloc (.cells #[.slice none 0 0,.int .i64 0,.int .i64 0,.int .i64 0] 37)) 89 (.slice (some ⟨wn1.heap.size,0,none⟩) 0 0) 0 []):=Own.step (show Own W0 _ 89 _ 0 [] from OW.out) hb
     have TH:Hid (zQ_ (wn3.alloc (.cells #[.slice none 0 0,.int .i64 0,.int .i64 0,.int .i64 0] 37)) wn3.heap.size 4):=yh_;have LG:Hid (wn3.heap.size < (wn3.alloc (.cells #[.slice none 0 0,.int .i64 0,.int .i64 0,.int .i64 0] 37)).heap.size):=z8_;have GE:Hid (W0.heap.size<=wn3.heap.size):=HB3.out.size;have NV:Hid (wn1.heap.size≠wn3.heap.size):=fun e=>by have:=OL.out; omega
     refine hK.out _ _ ?_ (fun hH'=>?_)
     ·(try dsimp only);exact ⟨zV_ (JB1.out.next HBn),HBn⟩
     clear hK K hH;have hH:=hH';clear hH';have HB4:=hm_ HBn;clear HBn hb;generalize (wn3.alloc (.cells #[.slice none 0 0,.int .i64 0,.int .i64 0,.int .i64 0] 37))=wn4 at *;have OL:Hid (wn1.heap.size < wn4.heap.size):=(OW.out.1.lt _ rfl).2;have LG0:=LG;refine wLy ?_
    rotate_left
    focus
     refine wLy ?_;go_simp;(try simp only []);have hb:=zb_ wn2 (.cells #[.slice none 0 0,.int .i64 0,.int .i64 0,.int .i64 0] 37);have HBn:Below W0.heap.size W0 (wn2.alloc (.cells #[.slice none 0 0,.int .i64 0,.int .i64 0,.int .i64 0] 37)):=HB2.out.trans (hb.mono HB2.out.size);replace OW:Hid (Own W0 (wn2.alloc (.cells #[.slice none 0 0,.int .i64 0,.int .i64 0,.int .i64 0] 37)) 89 (.slice (some ⟨wn1.heap.size,0,none⟩) 0 0) 0 []):=Own.step (show Own W0 _ 89 _ 0 [] from OW.out) hb
     have TH:Hid (zQ_ (wn2.alloc (.cells #[.slice none 0 0,.int .i64 0,.int .i64 0,.int .i64 0] 37)) wn2.heap.size 4):=yh_;have LG:Hid (wn2.heap.size < (wn2.alloc (.cells #[.slice none 0 0,.int .i64 0,.int .i64 0,.int .i64 0] 37)).heap.size):=z8_;have GE:Hid (W0.heap.size<=wn2.heap.size):=HB2.out.size;have NV:Hid (wn1.heap.size≠wn2.heap.size):=fun e=>by have:=OL.out; omega
     refine hK.out _ _ ?_ (fun hH'=>?_)
     ·(try dsimp only);exact ⟨zV_ (JB1.out.next HBn),HBn⟩
     clear hK K hH;have hH:=hH';clear hH';have HB3:=hm_ HBn;clear HBn hb;generalize (wn2.alloc (.cells #[.slice none 0 0,.int .i64 0,.int .i64 0,.int .i64 0] 37))=wn3 at *;have OL:Hid (wn1.heap.size < wn3.heap.size):=(OW.out.1.lt _ rfl).2;have LG0:=LG;refine wLy ?_;refine wRd 7 (fun K hK=>?_);go_simp;refine Calls.mono (CA.out _) ?_;rintro e wn4 ⟨rfl,hb⟩;have HBn:Below W0.heap.size W0 wn4:=HB3.out.trans (hb.mono HB3.out.size);replace OW:Hid (Own W0 wn4 89 (.slice (some ⟨wn1.heap.size,0,none⟩) 0 0) 0 []):=Own.step (show Own W0 _ 89 _ 0 [] from OW.out) hb
     replace TH:=z6_ TH hb LG;replace LG:=zZ_ LG hb;refine hK.out _ _ ?_ (fun hH'=>?_)
     ·(try dsimp only);exact ⟨zV_ (JB1.out.next HBn),HBn⟩
     clear hK K hH;have hH:=hH';clear hH';have HB4:=hm_ HBn;clear HBn hb;have OL:Hid (wn1.heap.size < wn4.heap.size):=(OW.out.1.lt _ rfl).2;have LG0:=LG;refine wLy ?_;refine wTk 8 ?_
    rotate_left
    all_goals
     obtain ⟨t0,T0⟩:=isx (TH.out 0 (by omega)).1;have Z0:=(TH.out 0 (by omega)).2;obtain ⟨t1,T1⟩:=isx (TH.out 1 (by omega)).1;have Z1:=(TH.out 1 (by omega)).2;obtain ⟨t2,T2⟩:=isx (TH.out 2 (by omega)).1;have Z2:=(TH.out 2 (by omega)).2;obtain ⟨t3,T3⟩:=isx (TH.out 3 (by omega)).1;have Z3:=(TH.out 3 (by omega)).2;refine wRd 10 (fun K hK=>?_);go_simp;(try simp only []);have J9:Hid _:=ve_ (p:=P) (q:=Q) (r:=R) (show Own W0 _ 89 _ 0 [] from OW.out) TH.out LG.out GE.out NV.out
     have HBn:=J9.out.own.2.1;refine hK.out _ _ ?_ (fun hH'=>?_)
     ·(try dsimp only);exact ⟨zV_ (JB1.out.next HBn),HBn⟩
     clear hK K hH HBn T0 T1 T2 T3 Z0 Z1 Z2 Z3 hH';refine wLy ?_;refine wDn ?_;go_wp2;go_meet
     case rel=>exact ⟨_,_,rfl,J9.out⟩
   ·refine wLy ?_;go_simp;refine Calls.mono (CA.out _) ?_;rintro e wn2 ⟨rfl,hb⟩;have HBn:Below W0.heap.size W0 wn2:=HB1.out.trans (hb.mono HB1.out.size);refine hK.out _ _ ?_ (fun hH'=>?_)
    ·(try dsimp only);exact ⟨zV_ (JB1.out.next HBn),HBn⟩
    clear hK K hH;have hH:=hH';clear hH';have HB2:=hm_ HBn;clear HBn hb;refine wLy ?_;refine wpAnyH_ready (rs:=[0,9]) (by kernel_rfl) (by simp) ?_;refine .cons rfl (fun K hK=>?_) (.cons rfl (fun K hK=>?_) .nil)
    focus
     refine wLy ?_;go_simp;(try simp only []);have hb:=zb_ wn2 (.cells #[] 89);have HBn:Below W0.heap.size W0 (wn2.alloc (.cells #[] 89)):=HB2.out.trans (hb.mono HB2.out.size);have OW:Hid (Own W0 (wn2.alloc (.cells #[] 89)) 89 (.slice (some ⟨wn2.heap.size,0,none⟩) 0 0) 0 []):=Own.lit HB2.out;refine hK.out _ _ ?_ (fun hH'=>?_)
     ·(try dsimp only);exact ⟨zV_ (JB1.out.next HBn),HBn⟩
     clear hK K hH;have hH:=hH';clear hH';have HB3:=hm_ HBn;clear HBn hb;generalize (wn2.alloc (.cells #[] 89))=wn3 at *;have OL:Hid (wn2.heap.size < wn3.heap.size):=(OW.out.1.lt _ rfl).2;refine wLy ?_;refine wTk 8 ?_;refine wRd 9 (fun K hK=>?_);go_simp;(try simp only []);have hb:=zb_ wn3 (.cells #[.slice none 0 0,.int .i64 0,.int .i64 0,.int .i64 0] 37);have HBn:Below W0.heap.size W0 (wn3.alloc (.cells #[.slice none 0 0,.int .i64 0,.int .i64 0,.int .i64 0] 37)):=HB3.out.trans (hb.mono HB3.out.size);replace OW:Hid (Own W0 (wn3.alloc (.cells #[.slice none 0 0,.int .i64 0,.int .i64 0,.int .i64 0] 37)) 89 (.slice (some ⟨wn2.heap.size,0,none⟩) 0 0) 0 []):=Own.step (show Own W0 _ 89 _ 0 [] from OW.out) hb
     have TH:Hid (zQ_ (wn3.alloc (.cells #[.slice none 0 0,.int .i64 0,.int .i64 0,.int .i64 0] 37)) wn3.heap.size 4):=yh_;have LG:Hid (wn3.heap.size < (wn3.alloc (.cells #[.slice none 0 0,.int .i64 0,.int .i64 0,.int .i64 0] 37)).heap.size):=z8_;have GE:Hid (W0.heap.size<=wn3.heap.size):=HB3.out.size;have NV:Hid (wn2.heap.size≠wn3.heap.size):=fun e=>by have:=OL.out; omega
     refine hK.out _ _ ?_ (fun hH'=>?_)
     ·(try dsimp only);exact ⟨zV_ (JB1.out.next HBn),HBn⟩
     clear hK K hH;have hH:=hH';clear hH';have HB4:=hm_ HBn;clear HBn hb;generalize (wn3.alloc (.cells #[.slice none 0 0,.int .i64 0,.int .i64 0,.int .i64 0] 37))=wn4 at *;have OL:Hid (wn2.heap.size < wn4.heap.size):=(OW.out.1.lt _ rfl).2;have LG0:=LG;refine wLy ?_
    rotate_left
    focus
     refine wLy ?_;go_simp;(try simp only []);have hb:=zb_ wn2 (.cells #[.slice none 0 0,.int .i64 0,.int .i64 0,.int .i64 0] 37);have HBn:Below W0.heap.size W0 (wn2.alloc (.cells #[.slice none 0 0,.int .i64 0,.int .i64 0,.int .i64 0] 37)):=HB2.out.trans (hb.mono HB2.out.size);have TH:Hid (zQ_ (wn2.alloc (.cells #[.slice none 0 0,.int .i64 0,.int .i64 0,.int .i64 0] 37)) wn2.heap.size 4):=yh_;have LG:Hid (wn2.heap.size < (wn2.alloc (.cells #[.slice none 0 0,.int .i64 0,.int .i64 0,.int .i64 0] 37)).heap.size):=z8_;have GE:Hid (W0.heap.size<=wn2.heap.size):=HB2.out.size;refine hK.out _ _ ?_ (fun hH'=>?_)
     ·(try dsimp only);exact ⟨zV_ (JB1.out.next HBn),HBn⟩
     clear hK K hH;have hH:=hH';clear hH';have HB3:=hm_ HBn;clear HBn hb;generalize (wn2.alloc (.cells #[.slice none 0 0,.int .i64 0,.int .i64 0,.int .i64 0] 37))=wn3 at *;have LG0:=LG;refine wLy ?_;refine wRd 0 (fun K hK=>?_);go_simp;(try simp only []);have hb:=zb_ wn3 (.cells #[] 89);have HBn:Below W0.heap.size W0 (wn3.alloc (.cells #[] 89)):=HB3.out.trans (hb.mono HB3.out.size);replace TH:=z6_ TH hb LG;replace LG:=zZ_ LG hb;have OW:Hid (Own W0 (wn3.alloc (.cells #[] 89)) 89 (.slice (some ⟨wn3.heap.size,0,none⟩) 0 0) 0 []):=Own.lit HB3.out;have NV:Hid (wn3.heap.size≠wn2.heap.size):=fun e=>by have:=LG0.out; omega
     refine hK.out _ _ ?_ (fun hH'=>?_)
     ·(try dsimp only);exact ⟨zV_ (JB1.out.next HBn),HBn⟩
     clear hK K hH;have hH:=hH';clear hH';have HB4:=hm_ HBn;clear HBn hb;generalize (wn3.alloc (.cells #[] 89))=wn4 at *;have OL:Hid (wn3.heap.size < wn4.heap.size):=(OW.out.1.lt _ rfl).2;have LG0:=LG;refine wLy ?_;refine wTk 8 ?_
    rotate_left
    all_goals
     obtain ⟨t0,T0⟩:=isx (TH.out 0 (by omega)).1;have Z0:=(TH.out 0 (by omega)).2;obtain ⟨t1,T1⟩:=isx (TH.out 1 (by omega)).1;have Z1:=(TH.out 1 (by omega)).2;obtain ⟨t2,T2⟩:=isx (TH.out 2 (by omega)).1;have Z2:=(TH.out 2 (by omega)).2;obtain ⟨t3,T3⟩:=isx (TH.out 3 (by omega)).1;have Z3:=(TH.out 3 (by omega)).2;refine wRd 10 (fun K hK=>?_);go_simp;(try simp only []);have J9:Hid _:=ve_ (p:=P) (q:=Q) (r:=R) (show Own W0 _ 89 _ 0 [] from OW.out) TH.out LG.out GE.out NV.out
     have HBn:=J9.out.own.2.1;refine hK.out _ _ ?_ (fun hH'=>?_)
     ·(try dsimp only);exact ⟨zV_ (JB1.out.next HBn),HBn⟩
     clear hK K hH HBn T0 T1 T2 T3 Z0 Z1 Z2 Z3 hH';refine wLy ?_;refine wDn ?_;go_wp2;go_meet
     case rel=>exact ⟨_,_,rfl,J9.out⟩
   ·refine wLy ?_;go_simp;(try simp only []);have hb:=zb_ wn1 (.cells #[.slice none 0 0,.int .i64 0,.int .i64 0,.int .i64 0] 37);have HBn:Below W0.heap.size W0 (wn1.alloc (.cells #[.slice none 0 0,.int .i64 0,.int .i64 0,.int .i64 0] 37)):=HB1.out.trans (hb.mono HB1.out.size);have TH:Hid (zQ_ (wn1.alloc (.cells #[.slice none 0 0,.int .i64 0,.int .i64 0,.int .i64 0] 37)) wn1.heap.size 4):=yh_;have LG:Hid (wn1.heap.size < (wn1.alloc (.cells #[.slice none 0 0,.int .i64 0,.int .i64 0,.int .i64 0] 37)).heap.size):=z8_;have GE:Hid (W0.heap.size<=wn1.heap.size):=HB1.out.size;refine hK.out _ _ ?_ (fun hH'=>?_)
    ·(try dsimp only);exact ⟨zV_ (JB1.out.next HBn),HBn⟩
    clear hK K hH;have hH:=hH';clear hH';have HB2:=hm_ HBn;clear HBn hb;generalize (wn1.alloc (.cells #[.slice none 0 0,.int .i64 0,.int .i64 0,.int .i64 0] 37))=wn2 at *;have LG0:=LG;refine wLy ?_;refine wpAnyH_ready (rs:=[0,7]) (by kernel_rfl) (by simp) ?_;refine .cons rfl (fun K hK=>?_) (.cons rfl (fun K hK=>?_) .nil)
    focus
     refine wLy ?_;go_simp;(try simp only []);have hb:=zb_ wn2 (.cells #[] 89);have HBn:Below W0.heap.size W0 (wn2.alloc (.cells #[] 89)):=HB2.out.trans (hb.mono HB2.out.size);replace TH:=z6_ TH hb LG;replace LG:=zZ_ LG hb;have OW:Hid (Own W0 (wn2.alloc (.cells #[] 89)) 89 (.slice (some ⟨wn2.heap.size,0,none⟩) 0 0) 0 []):=Own.lit HB2.out;have NV:Hid (wn2.heap.size≠wn1.heap.size):=fun e=>by have:=LG0.out; omega
     refine hK.out _ _ ?_ (fun hH'=>?_)
     ·(try dsimp only);exact ⟨zV_ (JB1.out.next HBn),HBn⟩
     clear hK K hH;have hH:=hH';clear hH';have HB3:=hm_ HBn;clear HBn hb;generalize (wn2.alloc (.cells #[] 89))=wn3 at *;have OL:Hid (wn2.heap.size < wn3.heap.size):=(OW.out.1.lt _ rfl).2;have LG0:=LG;refine wLy ?_;refine wRd 7 (fun K hK=>?_);go_simp;refine Calls.mono (CA.out _) ?_;rintro e wn4 ⟨rfl,hb⟩;have HBn:Below W0.heap.size W0 wn4:=HB3.out.trans (hb.mono HB3.out.size);replace OW:Hid (Own W0 wn4 89 (.slice (some ⟨wn2.heap.size,0,none⟩) 0 0) 0 []):=Own.step (show Own W0 _ 89 _ 0 [] from OW.out) hb
     replace TH:=z6_ TH hb LG;replace LG:=zZ_ LG hb;refine hK.out _ _ ?_ (fun hH'=>?_)
     ·(try dsimp only);exact ⟨zV_ (JB1.out.next HBn),HBn⟩
     clear hK K hH;have hH:=hH';clear hH';have HB4:=hm_ HBn;clear HBn hb;have OL:Hid (wn2.heap.size < wn4.heap.size):=(OW.out.1.lt _ rfl).2
    rotate_left
    focus
     refine wLy ?_;go_simp;refine Calls.mono (CA.out _) ?_;rintro e wn3 ⟨rfl,hb⟩;have HBn:Below W0.heap.size W0 wn3:=HB2.out.trans (hb.mono HB2.out.size);replace TH:=z6_ TH hb LG;replace LG:=zZ_ LG hb;refine hK.out _ _ ?_ (fun hH'=>?_)
     ·(try dsimp only);exact ⟨zV_ (JB1.out.next HBn),HBn⟩
     clear hK K hH;have hH:=hH';clear hH';have HB3:=hm_ HBn;clear HBn hb;have LG0:=LG;refine wLy ?_;refine wRd 0 (fun K hK=>?_);go_simp;(try simp only []);have hb:=zb_ wn3 (.cells #[] 89);have HBn:Below W0.heap.size W0 (wn3.alloc (.cells #[] 89)):=HB3.out.trans (hb.mono HB3.out.size);replace TH:=z6_ TH hb LG;replace LG:=zZ_ LG hb;have OW:Hid (Own W0 (wn3.alloc (.cells #[] 89)) 89 (.slice (some ⟨wn3.heap.size,0,none⟩) 0 0) 0 []):=Own.lit HB3.out;have NV:Hid (wn3.heap.size≠wn1.heap.size):=fun e=>by have:=LG0.out; omega
     refine hK.out _ _ ?_ (fun hH'=>?_)
     ·(try dsimp only);exact ⟨zV_ (JB1.out.next HBn),HBn⟩
     clear hK K hH;have hH:=hH';clear hH';have HB4:=hm_ HBn;clear HBn hb;generalize (wn3.alloc (.cells #[] 89))=wn4 at *;have OL:Hid (wn3.heap.size < wn4.heap.size):=(OW.out.1.lt _ rfl).2
    rotate_left
    all_goals
     have LG0:=LG;refine wLy ?_;refine wTk 8 ?_;obtain ⟨t0,T0⟩:=isx (TH.out 0 (by omega)).1;have Z0:=(TH.out 0 (by omega)).2;obtain ⟨t1,T1⟩:=isx (TH.out 1 (by omega)).1;have Z1:=(TH.out 1 (by omega)).2;obtain ⟨t2,T2⟩:=isx (TH.out 2 (by omega)).1;have Z2:=(TH.out 2 (by omega)).2;obtain ⟨t3,T3⟩:=isx (TH.out 3 (by omega)).1;have Z3:=(TH.out 3 (by omega)).2;refine wRd 10 (fun K hK=>?_);go_simp;(try simp only []);have J9:Hid _:=ve_ (p:=P) (q:=Q) (r:=R) (show Own W0 _ 89 _ 0 [] from OW.out) TH.out LG.out GE.out NV.out
     have HBn:=J9.out.own.2.1;refine hK.out _ _ ?_ (fun hH'=>?_)
     ·(try dsimp only);exact ⟨zV_ (JB1.out.next HBn),HBn⟩
     clear hK K hH HBn T0 T1 T2 T3 Z0 Z1 Z2 Z3 hH';refine wLy ?_;refine wDn ?_;go_wp2;go_meet
     case rel=>exact ⟨_,_,rfl,J9.out⟩
  ·refine wLy ?_;go_simp;(try simp only []);have hb:=zb_ wd (.cells #[.slice none 0 0,.int .i64 0,.int .i64 0,.int .i64 0] 37);have HBn:Below W0.heap.size W0 (wd.alloc (.cells #[.slice none 0 0,.int .i64 0,.int .i64 0,.int .i64 0] 37)):=HBs.out.trans (hb.mono HBs.out.size);have TH:Hid (zQ_ (wd.alloc (.cells #[.slice none 0 0,.int .i64 0,.int .i64 0,.int .i64 0] 37)) wd.heap.size 4):=yh_;have LG:Hid (wd.heap.size < (wd.alloc (.cells #[.slice none 0 0,.int .i64 0,.int .i64 0,.int .i64 0] 37)).heap.size):=z8_;have GE:Hid (W0.heap.size<=wd.heap.size):=HBs.out.size;refine hK.out _ _ ?_ (fun hH'=>?_)
   ·(try dsimp only);exact ⟨zV_ (JB1.out.next HBn),HBn⟩
   clear hK K hH;have hH:=hH';clear hH';have HB1:=hm_ HBn;clear HBn hb;generalize (wd.alloc (.cells #[.slice none 0 0,.int .i64 0,.int .i64 0,.int .i64 0] 37))=wn1 at *;have LG0:=LG;refine wLy ?_;refine wpAnyH_ready (rs:=[0,4]) (by kernel_rfl) (by simp) ?_;refine .cons rfl (fun K hK=>?_) (.cons rfl (fun K hK=>?_) .nil)
   ·refine wLy ?_;go_simp;(try simp only []);have hb:=zb_ wn1 (.cells #[] 89);have HBn:Below W0.heap.size W0 (wn1.alloc (.cells #[] 89)):=HB1.out.trans (hb.mono HB1.out.size);replace TH:=z6_ TH hb LG;replace LG:=zZ_ LG hb;have OW:Hid (Own W0 (wn1.alloc (.cells #[] 89)) 89 (.slice (some ⟨wn1.heap.size,0,none⟩) 0 0) 0 []):=Own.lit HB1.out;have NV:Hid (wn1.heap.size≠wd.heap.size):=fun e=>by have:=LG0.out; omega
    refine hK.out _ _ ?_ (fun hH'=>?_)
    ·(try dsimp only);exact ⟨zV_ (JB1.out.next HBn),HBn⟩
    clear hK K hH;have hH:=hH';clear hH';have HB2:=hm_ HBn;clear HBn hb;generalize (wn1.alloc (.cells #[] 89))=wn2 at *;have OL:Hid (wn1.heap.size < wn2.heap.size):=(OW.out.1.lt _ rfl).2;have LG0:=LG;refine wLy ?_;refine wRd 4 (fun K hK=>?_);go_simp;refine Calls.mono (CM.out _) ?_;rintro e wn3 ⟨rfl,hb⟩;have HBn:Below W0.heap.size W0 wn3:=HB2.out.trans (hb.mono HB2.out.size);replace OW:Hid (Own W0 wn3 89 (.slice (some ⟨wn1.heap.size,0,none⟩) 0 0) 0 []):=Own.step (show Own W0 _ 89 _ 0 [] from OW.out) hb
    replace TH:=z6_ TH hb LG;replace LG:=zZ_ LG hb;refine hK.out _ _ ?_ (fun hH'=>?_)
    ·(try dsimp only);exact ⟨zV_ (JB1.out.next HBn),HBn⟩
    clear hK K hH;have hH:=hH';clear hH';have HB3:=hm_ HBn;clear HBn hb;have OL:Hid (wn1.heap.size < wn3.heap.size):=(OW.out.1.lt _ rfl).2;have LG0:=LG;refine wLy ?_;refine wRd 7 (fun K hK=>?_);go_simp;refine Calls.mono (CA.out _) ?_;rintro e wn4 ⟨rfl,hb⟩;have HBn:Below W0.heap.size W0 wn4:=HB3.out.trans (hb.mono HB3.out.size);replace OW:Hid (Own W0 wn4 89 (.slice (some ⟨wn1.heap.size,0,none⟩) 0 0) 0 []):=Own.step (show Own W0 _ 89 _ 0 [] from OW.out) hb
    replace TH:=z6_ TH hb LG;replace LG:=zZ_ LG hb;refine hK.out _ _ ?_ (fun hH'=>?_)
    ·(try dsimp only);exact ⟨zV_ (JB1.out.next HBn),HBn⟩
    clear hK K hH;have hH:=hH';clear hH';have HB4:=hm_ HBn;clear HBn hb;have OL:Hid (wn1.heap.size < wn4.heap.size):=(OW.out.1.lt _ rfl).2;have LG0:=LG;refine wLy ?_;refine wTk 8 ?_;obtain ⟨t0,T0⟩:=isx (TH.out 0 (by omega)).1;have Z0:=(TH.out 0 (by omega)).2;obtain ⟨t1,T1⟩:=isx (TH.out 1 (by omega)).1;have Z1:=(TH.out 1 (by omega)).2;obtain ⟨t2,T2⟩:=isx (TH.out 2 (by omega)).1;have Z2:=(TH.out 2 (by omega)).2;obtain ⟨t3,T3⟩:=isx (TH.out 3 (by omega)).1;have Z3:=(TH.out 3 (by omega)).2;refine wRd 10 (fun K hK=>?_);go_simp;(try simp only []);have J9:Hid _:=ve_ (p:=P) (q:=Q) (r:=R) (show Own W0 _ 89 _ 0 [] from OW.out) TH.out LG.out GE.out NV.out
    have HBn:=J9.out.own.2.1;refine hK.out _ _ ?_ (fun hH'=>?_)
    ·(try dsimp only);exact ⟨zV_ (JB1.out.next HBn),HBn⟩
    clear hK K hH HBn T0 T1 T2 T3 Z0 Z1 Z2 Z3 hH';refine wLy ?_;refine wDn ?_;go_wp2;go_meet
    case rel=>exact ⟨_,_,rfl,J9.out⟩
   ·refine wLy ?_;go_simp;refine Calls.mono (CM.out _) ?_;rintro e wn2 ⟨rfl,hb⟩;have HBn:Below W0.heap.size W0 wn2:=HB1.out.trans (hb.mono HB1.out.size);replace TH:=z6_ TH hb LG;replace LG:=zZ_ LG hb;refine hK.out _ _ ?_ (fun hH'=>?_)
    ·(try dsimp only);exact ⟨zV_ (JB1.out.next HBn),HBn⟩
    clear hK K hH;have hH:=hH';clear hH';have HB2:=hm_ HBn;clear HBn hb;have LG0:=LG;refine wLy ?_;refine wpAnyH_ready (rs:=[0,7]) (by kernel_rfl) (by simp) ?_;refine .cons rfl (fun K hK=>?_) (.cons rfl (fun K hK=>?_) .nil)
    focus
     refine wLy ?_;go_simp;(try simp only []);have hb:=zb_ wn2 (.cells #[] 89);have HBn:Below W0.heap.size W0 (wn2.alloc (.cells #[] 89)):=HB2.out.trans (hb.mono HB2.out.size);replace TH:=z6_ TH hb LG;replace LG:=zZ_ LG hb;have OW:Hid (Own W0 (wn2.alloc (.cells #[] 89)) 89 (.slice (some ⟨wn2.heap.size,0,none⟩) 0 0) 0 []):=Own.lit HB2.out;have NV:Hid (wn2.heap.size≠wd.heap.size):=fun e=>by have:=LG0.out; omega
     refine hK.out _ _ ?_ (fun hH'=>?_)
     ·(try dsimp only);exact ⟨zV_ (JB1.out.next HBn),HBn⟩
     clear hK K hH;have hH:=hH';clear hH';have HB3:=hm_ HBn;clear HBn hb;generalize (wn2.alloc (.cells #[] 89))=wn3 at *;have OL:Hid (wn2.heap.size < wn3.heap.size):=(OW.out.1.lt _ rfl).2;have LG0:=LG;refine wLy ?_;refine wRd 7 (fun K hK=>?_);go_simp;refine Calls.mono (CA.out _) ?_;rintro e wn4 ⟨rfl,hb⟩;have HBn:Below W0.heap.size W0 wn4:=HB3.out.trans (hb.mono HB3.out.size);replace OW:Hid (Own W0 wn4 89 (.slice (some ⟨wn2.heap.size,0,none⟩) 0 0) 0 []):=Own.step (show Own W0 _ 89 _ 0 [] from OW.out) hb
     replace TH:=z6_ TH hb LG;replace LG:=zZ_ LG hb;refine hK.out _ _ ?_ (fun hH'=>?_)
     ·(try dsimp only);exact ⟨zV_ (JB1.out.next HBn),HBn⟩
     clear hK K hH;have hH:=hH';clear hH';have HB4:=hm_ HBn;clear HBn hb;have OL:Hid (wn2.heap.size < wn4.heap.size):=(OW.out.1.lt _ rfl).2
    rotate_left
    focus
     refine wLy ?_;go_simp;refine Calls.mono (CA.out _) ?_;rintro e wn3 ⟨rfl,hb⟩;have HBn:Below W0.heap.size W0 wn3:=HB2.out.trans (hb.mono HB2.out.size);replace TH:=z6_ TH hb LG;replace LG:=zZ_ LG hb;refine hK.out _ _ ?_ (fun hH'=>?_)
     ·(try dsimp only);exact ⟨zV_ (JB1.out.next HBn),HBn⟩
     clear hK K hH;have hH:=hH';clear hH';have HB3:=hm_ HBn;clear HBn hb;have LG0:=LG;refine wLy ?_;refine wRd 0 (fun K hK=>?_);go_simp;(try simp only []);have hb:=zb_ wn3 (.cells #[] 89);have HBn:Below W0.heap.size W0 (wn3.alloc (.cells #[] 89)):=HB3.out.trans (hb.mono HB3.out.size);replace TH:=z6_ TH hb LG;replace LG:=zZ_ LG hb;have OW:Hid (Own W0 (wn3.alloc (.cells #[] 89)) 89 (.slice (some ⟨wn3.heap.size,0,none⟩) 0 0) 0 []):=Own.lit HB3.out;have NV:Hid (wn3.heap.size≠wd.heap.size):=fun e=>by have:=LG0.out; omega
     refine hK.out _ _ ?_ (fun hH'=>?_)
     ·(try dsimp only);exact ⟨zV_ (JB1.out.next HBn),HBn⟩
     clear hK K hH;have hH:=hH';clear hH';have HB4:=hm_ HBn;clear HBn hb;generalize (wn3.alloc (.cells #[] 89))=wn4 at *;have OL:Hid (wn3.heap.size < wn4.heap.size):=(OW.out.1.lt _ rfl).2
    rotate_left
    all_goals
     have LG0:=LG;refine wLy ?_;refine wTk 8 ?_;obtain ⟨t0,T0⟩:=isx (TH.out 0 (by omega)).1;have Z0:=(TH.out 0 (by omega)).2;obtain ⟨t1,T1⟩:=isx (TH.out 1 (by omega)).1;have Z1:=(TH.out 1 (by omega)).2;obtain ⟨t2,T2⟩:=isx (TH.out 2 (by omega)).1;have Z2:=(TH.out 2 (by omega)).2;obtain ⟨t3,T3⟩:=isx (TH.out 3 (by omega)).1;have Z3:=(TH.out 3 (by omega)).2;refine wRd 10 (fun K hK=>?_);go_simp;(try simp only []);have J9:Hid _:=ve_ (p:=P) (q:=Q) (r:=R) (show Own W0 _ 89 _ 0 [] from OW.out) TH.out LG.out GE.out NV.out
     have HBn:=J9.out.own.2.1;refine hK.out _ _ ?_ (fun hH'=>?_)
     ·(try dsimp only);exact ⟨zV_ (JB1.out.next HBn),HBn⟩
     clear hK K hH HBn T0 T1 T2 T3 Z0 Z1 Z2 Z3 hH';refine wLy ?_;refine wDn ?_;go_wp2;go_meet
     case rel=>exact ⟨_,_,rfl,J9.out⟩
 case rest=>
  obtain ⟨ob,vo0,rfl,J20⟩:=hcut;have J2:=hm_ J20;clear J20 CM CA;go_wp2;go_loopw [8] (fun s8 wr=>∃ (i:Nat) (vo:Option Addr) (n vc:Nat) (m:List Sib),i<=l.length∧s8=.int .i64 i∧m=fil x y z (l.take i)∧JS W0 wr ob vo n vc P Q R m) (fun s8 _=>l.length - (intOf s8).toNat)
  case atStart=>exact ⟨0,_,_,_,[],by omega,rfl,by simp [fil],J2.out⟩
  case round=>
   clear J2;obtain ⟨i,vo,n,vc,m,hil,rfl,hM0,hJ0⟩:=hrel;have hM:=hm_ hM0;have hN:Hid (m.length<=i):=by show _<=_; rw [hM0]; exact qE_ x y z l i
   have hJ:=hm_ hJ0;have hL:Hid (n=m.length):=hJ0.len;have hb0:=hm_ hJ0.own.2.1;obtain ⟨⟨ca0,ca1,ca2,ca3⟩,⟨cb0,cb1,cb2⟩,cs,hTr,hz⟩:=JB1.out.next hb0.out;clear hJ0 hM0 ca1 ca2 ca3;by_cases hkl:i < l.length
   ·have hkl':(i:Int) < (l.length:Int):=by omega
    have kk:(0:Int)<=(i:Int):=by omega
    rcases yZ_ RA hb0 with h' | ⟨p,off,rfl,h2⟩
    ·rw [h'] at hkl; simp at hkl
    obtain ⟨x0,x1,x2,x3⟩:=h2 i hkl;obtain ⟨nd0,nd3⟩:=HN1.out i hkl;clear h2 cs hTr hz;go_wp2_with fail;refine wp_region_held_drew (S:=(fun w'=>(w'.cell? ⟨w.heap.size+1,0,none⟩=some (.int .i64 x)∧w'.cell? ⟨w.heap.size+1,1,none⟩=some (.int .i64 y)∧w'.cell? ⟨w.heap.size+1,2,none⟩=some (.int .i64 z))∧w'.cell? ⟨w.heap.size,0,none⟩=some (.slice (some ⟨p,off,none⟩) l.length cap)∧(w'.cell? ⟨p,off+i * 4,none⟩=some (.int .i64 l[i].p)∧w'.cell? ⟨p,off+i * 4+1,none⟩=some (.int .i64 l[i].n))∧Below wr.heap.size wr w')) (by kernel_rfl) ?_ (fun hH=>?_)
    ·(try dsimp only);exact ⟨⟨cb0,cb1,cb2⟩,ca0,⟨x0,x1⟩,zd_ _⟩
    refine wTk 0 ?_;refine wTk 1 ?_;refine wTk 2 ?_;refine wTk 3 ?_;refine wTk 4 ?_;refine wTk 5 ?_;refine wTk 6 ?_;refine wRd 7 (fun K hK=>?_);go_simp
    (go_at_call 100; refine (yk_ x y z l[i].p l[i].n _ nd0 nd3).mono ?_; rintro e w3 ⟨rfl,hb⟩)
    (try simp only []);refine hK.out _ _ ?_ (fun hH'=>?_)
    ·(try dsimp only);exact ⟨⟨za_ hb hH.1.1 (zh_ hH.1.1),za_ hb hH.1.2.1 (zh_ hH.1.2.1),za_ hb hH.1.2.2 (zh_ hH.1.2.2)⟩,za_ hb hH.2.1 (zh_ hH.2.1),⟨za_ hb hH.2.2.1.1 (zh_ hH.2.2.1.1),za_ hb hH.2.2.1.2 (zh_ hH.2.2.1.2)⟩,(q0_ hH.2.2.2 hb).out⟩
    clear hK K hH;have hH:=hH';clear hH';clear hb;refine wLy ?_;refine wTk 8 ?_;refine wDn ?_;have hb3:Hid (Below wr.heap.size wr _):=hH.2.2.2;have JX:Hid (JS W0 _ ob vo n vc P Q R m):=hJ.out.next hb3.out;have ca0':=hH.2.1;have x0':=hH.2.2.1.1;have x1':=hH.2.2.1.2;have x2':=za_ hb3.out x2 (zh_ x2);have x3':=za_ hb3.out x3 (zh_ x3);clear hH x0 x1 x2 x3 ca0 cb0 cb1 cb2;cases hd:decide (l[i].n<=comp x y z l[i].p)
    ·have HM':Hid (m++[l[i]]=fil x y z (l.take (i+1))):=by show _=_; rw [hM.out]; exact (uv_ hkl hd).symm
     have hB9:=JX.out.box;obtain ⟨⟨o0,o1,o2,o3⟩,hT9,hz9⟩:=hB9;have hf9:=(hT9 0 (by omega)).2;clear o1 o2 o3 hT9;have JD:=hm_ (JX.out.next (zd_ _));have hn6:n+1<=maxLen:=by have:=hL.out; have:=hN.out; unfold maxLen; omega
     have hn7:(n+1) * 32<=140737488355328:=by have:=hL.out; have:=hN.out; omega
     go_wp2_with fail
     go_region_law_o (refine uF_ rfl (.tmp 35) (.tmp 41) 33 rfl 89 i0 (.agg #[.int .i64 0,.int .i64 0,.int .i64 0,.bool false]) 32 Tryz.underlying33 HI.out.1 HI.out.2.1 HI.out.2.2.1 HI.out.2.2.2 rfl (.slice vo n vc) n (flat m) (by simp [Act.eval,Act.put]) (JD.out.next (zb_ _ _)).own.1 _ 1 1 [l[i]] (by simp [Act.eval,Act.put]) z7_ hn6 hn7 ?_; intro v' w6 ho6 hg6; obtain ⟨vo',vc',rfl,hJ6⟩:=(JD.out.next (zb_ _ _)).put (m':=m++[l[i]]) (.inl rfl) (zA_ ho6 rfl (by rw [zz_])) (by have:=hL.out; simp; omega) hg6; have o6:=hg6.cell (JD.out.next (zb_ _ _)).box.1.1 JD.out.ne; have f6:=(xC_ ((JD.out.next (zb_ _ _)).box.2.1) hg6 ((JD.out.next (zb_ _ _)).box.2.2) JD.out.ne 0 (by omega)).2; have J6:Hid _:=hJ6; clear ho6 hg6 hJ6)
     all_goals clear o0 hf9 x0' x1' x2' x3' ca0'
     all_goals
      go_wp2
      go_roundw
      case rel=>first | exact ⟨i+1,_,_,_,m++[l[i]],by omega,by go_num,HM'.out,J6.out⟩ | ((repeat apply Exists.intro); exact ⟨⟨i+1,_,_,_,m++[l[i]],by omega,by go_num,HM'.out,J6.out⟩,rfl⟩)
      case measure=>simp [intOf]; omega
    ·have HM':Hid (m=fil x y z (l.take (i+1))):=by show _=_; rw [hM.out]; exact (uu_ hkl hd).symm
     clear x0' x1' x2' x3' ca0';go_wp2
     go_roundw
     case rel=>first | exact ⟨i+1,_,_,_,m,by omega,by go_num,HM'.out,JX.out⟩ | ((repeat apply Exists.intro); exact ⟨⟨i+1,_,_,_,m,by omega,by go_num,HM'.out,JX.out⟩,rfl⟩)
     case measure=>simp [intOf]; omega
   ·have hkl':¬ (i:Int) < (l.length:Int):=by omega
    have hM1:Hid (m=fil x y z l):=by have:=hM.out; rw [List.take_of_length_le (by omega)] at this; exact this
    obtain ⟨s0,s1,s2,s3⟩:=cs;obtain ⟨⟨o0,o1,o2,o3⟩,hT9,hz9⟩:=hJ.out.box;have of0:=(hT9 0 (by omega)).2;go_wp2_with fail;refine (r1_ n vc vo m s _ hL.out (by have:=hN.out; omega) hJ.out.cap hJ.out.row).mono ?_;rintro e w6 ⟨v',rfl,ho6,hg6⟩;obtain ⟨vo',vc',rfl,hJ6⟩:=hJ.out.put (m':=pt s m) (.inr rfl) ho6 rfl hg6;have p0:=hg6.cell o0 Gro.none_ne;have f6:=(xC_ hT9 hg6 hz9 Gro.none_ne 0 (by omega)).2;obtain ⟨⟨q0,q1,q2,q3⟩,hT7,hz7⟩:=hJ6.box;obtain ⟨_,_,_,hTr7,_⟩:=JB1.out.next hJ6.own.2.1;obtain ⟨t0,T0⟩:=isx (hTr7 0 (by omega)).1;obtain ⟨t1,T1⟩:=isx (hTr7 1 (by omega)).1;obtain ⟨t2,T2⟩:=isx (hTr7 2 (by omega)).1;obtain ⟨t3,T3⟩:=isx (hTr7 3 (by omega)).1;have Z0:=(hTr7 0 (by omega)).2;have Z1:=(hTr7 1 (by omega)).2;have Z2:=(hTr7 2 (by omega)).2;have Z3:=(hTr7 3 (by omega)).2;have O5:Hid (_∧_):=⟨hJ6.own.1,hJ6.own.gro⟩;clear hTr7 hT7 hz7 hTr hT9 hz9 hz ca0 cb0 cb1 cb2 s0 s1 s2 s3 o0 o1 o2 o3 of0 ho6 hg6 hJ6;go_upto_region 8 with fail;generalize w6.setCell ⟨ob,0,none⟩ (.slice vo' (pt s m).length vc')=w7 at *;clear p0 f6;go_wp2;refine bodyPost_ret (v:=.agg #[.slice vo' (pt s m).length vc',.int .i64 P,.int .i64 Q,.int .i64 R]) (by simp [results,Tryz.results101,go_sem,T0,T1,T2,T3,Z0,Z1,Z2,Z3]) rfl ⟨_,rfl,?_,?_⟩
    ·exact Gro.set4 (GW.out.trans O5.out.2) (by omega)
    ·have hne:(Value.slice vo' (pt s m).length vc').ownBlock≠some (w.heap.size+1+1+1):=nb O5.out.2 JB1.out.2.2.2.2;exact zA_ (ownsRow_setCell_other (ownsRow_setCell_other (ownsRow_setCell_other (ownsRow_setCell_other O5.out.1 hne _) hne _) hne _) hne _) (by rw [hM1.out]) (by rw [hM1.out])
end
section
variable {base e n:Nat} {v:Value} {w:World} {xs:List Value}
theorem or_ {size:Nat} (h:w.ownsRow base e size v n xs):∃ o k c,v=.slice o k c:=by
 rcases h.2 with ⟨rfl,_⟩ | ⟨g,cap,cur,rfl,_⟩
 ·exact ⟨_,_,_,rfl⟩
 ·exact ⟨_,_,_,rfl⟩
theorem rj_ (cap:Nat) (ao:Option Addr) (l:List Sib) (a b c:Int) (w:World) (hm:l.length<=1048576) (hr0:zk_ w ao l) :
  Calls Tryz.prog 106 #[.agg #[.slice ao l.length cap,.int .i64 a,.int .i64 b,.int .i64 c]] w fun e w'=>∃ v,e=.returned (.agg #[v,.int .i64 a,.int .i64 b,.int .i64 c])∧Gro w w' (.slice none 0 0) v∧w'.ownsRow 0 89 4 v l.length (flat l):=by
 have RA:Hid (zk_ ((w.alloc (.cells #[.slice ao l.length cap,.int .i64 a,.int .i64 b,.int .i64 c] 37)).alloc (.cells #[.slice none 0 0,.int .i64 0,.int .i64 0,.int .i64 0] 37)) ao l):=zM_ (zM_ hr0 (zb_ _ _)) (zb_ _ _);have C1:Hid (wu_ ((w.alloc (.cells #[.slice ao l.length cap,.int .i64 a,.int .i64 b,.int .i64 c] 37)).alloc (.cells #[.slice none 0 0,.int .i64 0,.int .i64 0,.int .i64 0] 37)) w.heap.size (.slice ao l.length cap) a b c):=by refine ⟨?_,?_,?_,?_⟩ <;> go_simp
 have L1:Hid (w.heap.size < ((w.alloc (.cells #[.slice ao l.length cap,.int .i64 a,.int .i64 b,.int .i64 c] 37)).alloc (.cells #[.slice none 0 0,.int .i64 0,.int .i64 0,.int .i64 0] 37)).heap.size):=by show _ < _; simp; omega
 have T1:Hid (zQ_ ((w.alloc (.cells #[.slice ao l.length cap,.int .i64 a,.int .i64 b,.int .i64 c] 37)).alloc (.cells #[.slice none 0 0,.int .i64 0,.int .i64 0,.int .i64 0] 37)) (w.heap.size+1) 4):=by
  have:=yh_ (W:=w.alloc (.cells #[.slice ao l.length cap,.int .i64 a,.int .i64 b,.int .i64 c] 37)) (t:=37)
  show zQ_ _ _ _
  simpa using this
 have T0:Hid (zQ_ ((w.alloc (.cells #[.slice ao l.length cap,.int .i64 a,.int .i64 b,.int .i64 c] 37)).alloc (.cells #[.slice none 0 0,.int .i64 0,.int .i64 0,.int .i64 0] 37)) w.heap.size 4):=by
  show zQ_ _ _ _
  intro j hj;have hj':j=0∨j=1∨j=2∨j=3:=by omega
  rcases hj' with rfl | rfl | rfl | rfl <;> exact ⟨by go_simp,by go_simp⟩
 have L2:Hid (w.heap.size+1 < ((w.alloc (.cells #[.slice ao l.length cap,.int .i64 a,.int .i64 b,.int .i64 c] 37)).alloc (.cells #[.slice none 0 0,.int .i64 0,.int .i64 0,.int .i64 0] 37)).heap.size):=by show _ < _; simp
 have GW:Hid (Gro w ((w.alloc (.cells #[.slice ao l.length cap,.int .i64 a,.int .i64 b,.int .i64 c] 37)).alloc (.cells #[.slice none 0 0,.int .i64 0,.int .i64 0,.int .i64 0] 37)) (.slice none 0 0) (.slice none 0 0)):=(Gro.of_below (zb_ _ _)).trans (Gro.of_below (zb_ _ _));have SRC:Hid (zG_ ((w.alloc (.cells #[.slice ao l.length cap,.int .i64 a,.int .i64 b,.int .i64 c] 37)).alloc (.cells #[.slice none 0 0,.int .i64 0,.int .i64 0,.int .i64 0] 37)) ao l.length l):=⟨rfl,RA.out⟩;have HM:=hm_ hm;clear hr0 hm;have h63:l.length<=1048576:=HM.out;obtain ⟨i0,hi,hz0,hz1,hz2⟩:=info_parts yG_;have HI:Hid (Tryz.prog.info? 89=some i0∧i0.zero=some (.agg #[.int .i64 0,.int .i64 0,.int .i64 0,.bool false])∧i0.size=4∧i0.bytes=32):=⟨hi,hz0,hz1,hz2⟩;clear hi hz0 hz1 hz2;go_enter Tryz.func106,Tryz.ntmps106;go_upto_region 1 with fail;generalize ((w.alloc (.cells #[.slice ao l.length cap,.int .i64 a,.int .i64 b,.int .i64 c] 37)).alloc (.cells #[.slice none 0 0,.int .i64 0,.int .i64 0,.int .i64 0] 37))=W0 at *;obtain ⟨c0,c1,c2,c3⟩:=C1.out;have e0:=fun o=>zj_ (o:=o) c0 L1.out
 clear C1;have OL:Hid (Own W0 (W0.alloc (.cells #[] 89)) 89 (.slice (some ⟨W0.heap.size,0,none⟩) 0 0) 0 []):=Own.lit (Below.refl _ _);go_wp2_with (first | (at_builtin; refine yg_ rfl _ _ 33 rfl 89 i0 (.agg #[.int .i64 0,.int .i64 0,.int .i64 0,.bool false]) 32 Tryz.underlying33 HI.out.1 HI.out.2.1 HI.out.2.2.1 HI.out.2.2.2 rfl (.slice (some ⟨W0.heap.size,0,none⟩) 0 0) 0 [] rfl OL.out.1 ao l.length cap l rfl (SRC.out.next (zb_ _ _)) ?c3 ?c4 ?_) | go_in)
 case c3=>unfold maxLen; omega
 case c4=>omega
 intro v w2 ho hg;obtain ⟨vo,vn,vc,rfl⟩:=or_ ho;have OV:Hid (Own W0 w2 89 (.slice vo vn vc) (0+l.length) ([]++flat l)):=Own.app (show Own W0 _ 89 _ 0 [] from OL.out) (zA_ ho (by omega) (by simp)) hg
 have hne:Hid (Value.ownBlock (.slice (some ⟨W0.heap.size,0,none⟩) 0 0)≠some w.heap.size):=fun e=>by
  simp [Value.ownBlock] at e
  have:=L1.out
  omega
 have hne':Hid (Value.ownBlock (.slice (some ⟨W0.heap.size,0,none⟩) 0 0)≠some (w.heap.size+1)):=fun e=>by
  simp [Value.ownBlock] at e
  have:=L2.out
  omega
 have d0:=hg.cell (e0 _) hne.out;have d1:=hg.cell (zj_ c1 L1.out) hne.out;have d2:=hg.cell (zj_ c2 L1.out) hne.out;have d3:=hg.cell (zj_ c3 L1.out) hne.out;have hTa:=xC_ (T0.out.next (zb_ _ _) L1.out) hg (Nat.lt_of_lt_of_le L1.out (zb_ _ _).size) hne.out;have f0:=(hTa 0 (by omega)).2;have hTr:=xC_ (T1.out.next (zb_ _ _) L2.out) hg (Nat.lt_of_lt_of_le L2.out (zb_ _ _).size) hne'.out;have G2:Hid (Gro W0 w2 (.slice none 0 0) (.slice vo vn vc)):=Own.gro (show Own W0 w2 89 (.slice vo vn vc) _ _ from OV.out)
 have O2:Hid (w2.ownsRow 0 89 4 (.slice vo vn vc) l.length (flat l)):=zA_ OV.out.1 (by omega) (by simp);clear ho hg hTa e0 c0 c1 c2 c3 OL OV;have d1':=zw_ (u:=.slice vo vn vc) d1 (show 1≠0 by omega);have d2':=zw_ (u:=.slice vo vn vc) d2 (show 2≠0 by omega);have d3':=zw_ (u:=.slice vo vn vc) d3 (show 3≠0 by omega);have d0':=zI_ (u:=.slice vo vn vc) d0;have hTr':zQ_ (w2.setCell ⟨w.heap.size,0,none⟩ (.slice vo vn vc)) (w.heap.size+1) 4:=hTr.set;have O3:Hid ((w2.setCell ⟨w.heap.size,0,none⟩ (.slice vo vn vc)).ownsRow 0 89 4 (.slice vo vn vc) l.length (flat l)):=ownsRow_setCell_other O2.out (nb G2.out L1.out) _;have G3:Hid (Gro w (w2.setCell ⟨w.heap.size,0,none⟩ (.slice vo vn vc)) (.slice none 0 0) (.slice vo vn vc)):=Gro.set1 (GW.out.trans G2.out) (Nat.le_refl _);clear hTr O2;go_upto_region 2 with fail;generalize w2.setCell ⟨w.heap.size,0,none⟩ (.slice vo vn vc)=w3 at *;clear d0 d1 d2 d3 f0;have hTr:=hTr';obtain ⟨t0,T0⟩:=isx (hTr 0 (by omega)).1;have Z0:=(hTr 0 (by omega)).2;obtain ⟨t1,T1⟩:=isx (hTr 1 (by omega)).1;have Z1:=(hTr 1 (by omega)).2;obtain ⟨t2,T2⟩:=isx (hTr 2 (by omega)).1;have Z2:=(hTr 2 (by omega)).2;obtain ⟨t3,T3⟩:=isx (hTr 3 (by omega)).1;have Z3:=(hTr 3 (by omega)).2;clear hTr hTr';go_wp2;refine bodyPost_ret (v:=.agg #[.slice vo vn vc,.int .i64 a,.int .i64 b,.int .i64 c]) (by simp [results,Tryz.results106,go_sem,T0,T1,T2,T3,Z0,Z1,Z2,Z3]) rfl ⟨_,rfl,?_,?_⟩
 ·exact Gro.set4 G3.out (by omega)
 ·have hne:(Value.slice vo vn vc).ownBlock≠some (w.heap.size+1):=nb G2.out L2.out;exact xQ_ O3.out hne
end
end Go.Proofs.YtijcjhcgpmnchaaGreatDoor
