/- Nodes, part 15 of the law FnTake. -/
import Derived.Test.YtijcjhcgpmnchaaGreatDoorM14
import Derived.Laws.EntriesVeiled
namespace Go.Proofs.YtijcjhcgpmnchaaGreatDoor
open Go.RowKit
set_option maxRecDepth 100000
set_option maxHeartbeats 16000000
set_option linter.unusedSimpArgs false
set_option linter.unusedVariables false
section
variable {W w:World} {b g k o1:Nat} {most:Int} {ok:Bool} {rest:List UInt8} {s:ByteArray} {u v:Value}
theorem rb_ (s:ByteArray) (w:World) :
  Calls Tryz.prog 198 #[.string s] w fun e w'=>e=.returned (.agg #[.func (.func 220) #[] #[.pointer (some ⟨w.heap.size,0,none⟩)],.func (.func 221) #[] #[.pointer (some ⟨w.heap.size,0,none⟩)],.func (.func 223) #[] #[.pointer (some ⟨w.heap.size,0,none⟩)]])∧Below w.heap.size w w'∧Left w' w.heap.size s∧w.heap.size < w'.heap.size:=by
 go_enter Tryz.func198,Tryz.ntmps198;go_wp2;refine bodyPost_ret (v:=.agg #[.func (.func 220) #[] #[.pointer (some ⟨w.heap.size,0,none⟩)],.func (.func 221) #[] #[.pointer (some ⟨w.heap.size,0,none⟩)],.func (.func 223) #[] #[.pointer (some ⟨w.heap.size,0,none⟩)]]) (by simp [results,Tryz.results198,go_sem]) rfl ⟨rfl,?_,⟨by go_simp,by go_simp⟩,by simp; omega⟩
 repeat (first | exact Below.refl _ _ | refine Below.drew ?_ | refine below_drewN ?_ _ | refine Below.alloc ?_ (by first | (simp; done) | (simp; omega)) _ | refine Below.setCell ?_ (by first | (simp; done) | (simp; omega)) _)
def rdR:List UInt8->(Int × Int) × Bool × List UInt8
 | []=>((0,0),false,[])
 | c :: r=>if 97<=c.toNat∧c.toNat<=99 then (((c.toNat:Int) - 97,(ld 9999 r).1),(decide (0 < (ld 9999 r).2) && dotB ((c.toNat:Int) - 97) (ld 9999 r).1),r.drop (ld 9999 r).2) else ((0,0),false,c :: r)
theorem yM_ {o2:Nat} (h:Left w g s) (hne:g≠b):Left ((w.setCell ⟨b,o1,none⟩ u).setCell ⟨b,o2,none⟩ v) g s:=⟨zg_ (zg_ h.1 hne) hne,by rw [World.frozen?_setCell,World.frozen?_setCell]; exact h.2⟩
theorem zD_ {r:Option Nat} {o:Nat} (h:w.grownBy W r) (hb:w.heap.size<=b):w.grownBy (W.setCell ⟨b,o,none⟩ u) r:=
 ⟨by simpa [World.setCell] using h.os,by simpa [World.setCell] using h.tape,by simpa [World.setCell] using h.output,by simpa [World.setCell] using h.size,fun k hk hne=>(Below.heap_setCell W ⟨b,o,none⟩ u k (fun e=>by simp at e; omega)).trans (h.block k hk hne)⟩
theorem vq_ {n:Int} (h:Hid (ld most (bl s)=(n,k))) (h0:0<=most):k<=s.size:=by
 have:=(sL_ h0 (bl s)).2.2
 rw [h.out,zF_] at this;exact this
theorem r0_ {p n n':Int} {c:Nat} (hR:Hid (rdR (bl s)=((p,n),ok,rest))) (hs:0 < s.size) (hc3:c < 3) (hc:(s[0]'hs).toNat=97+c) (hnk:ld 9999 (bl (s.extract 1 s.size))=(n',k)):Hid (p=(c:Int)∧n=n'∧ok=(decide (0 < k) && dotB (c:Int) n')∧rest=(bl (s.extract 1 s.size)).drop k):=by
 have h:=hR.out;have e0:bl s=s[0] :: (bl s).drop 1:=by have:=yC_ s 0 hs; rwa [List.drop_zero] at this
 rw [xm_ s 1 hs] at hnk ⊢;rw [e0,rdR,if_pos (by omega),hnk] at h;simp only [Prod.mk.injEq] at h;obtain ⟨⟨h1,h2⟩,h3,h4⟩:=h;have e1:(((s[0]'hs).toNat:Int)) - 97=(c:Int):=by omega
 rw [e1] at h1 h3;exact ⟨h1.symm,h2.symm,h3.symm,h4.symm⟩
theorem on_ {p n:Int} (hR:Hid (rdR (bl s)=((p,n),ok,rest))) (hN:∀ h:0 < s.size,∀ j,j < 3->¬ (s[0]'h).toNat=97+j):Hid (p=0∧n=0∧ok=false∧rest=bl s):=by
 have h:=hR.out;by_cases hs:0 < s.size
 focus
  have e0:bl s=s[0] :: (bl s).drop 1:=by have:=yC_ s 0 hs; rwa [List.drop_zero] at this
  have h0:=hN hs 0 (by omega);have h1:=hN hs 1 (by omega);have h2:=hN hs 2 (by omega);rw [e0,rdR,if_neg (by omega)] at h
 rotate_left
 focus
  have e0:bl s=[]:=List.length_eq_zero_iff.1 (by rw [zF_]; omega);rw [e0,rdR] at h
 rotate_left
 all_goals
  simp only [Prod.mk.injEq] at h;obtain ⟨⟨a,b⟩,c,d⟩:=h;exact ⟨a.symm,b.symm,c.symm,by rw [e0]; exact d.symm⟩
theorem tP_ (g:Nat) (s:ByteArray) (w:World) (hg:g < w.heap.size) (hL0:Left w g s) (hs:s.size<=65536) (p n:Int) (ok:Bool) (rest:List UInt8) (hR:Hid (rdR (bl s)=((p,n),ok,rest))) :
  Calls Tryz.prog 246 #[.agg #[.func (.func 220) #[] #[.pointer (some ⟨g,0,none⟩)],.func (.func 221) #[] #[.pointer (some ⟨g,0,none⟩)],.func (.func 223) #[] #[.pointer (some ⟨g,0,none⟩)]]] w fun e w'=>e=.returned (.tuple #[.agg #[.int .i64 p,.int .i64 n],.bool ok])∧∃ s',Left w' g s'∧bl s'=rest∧w.grownBy w' (some g):=by
 have HL:Hid (Left w g s):=hL0;clear hL0;have F0:Hid (∀ k,(((w.alloc (.cells #[.func (.func 220) #[] #[.pointer (some ⟨g,0,none⟩)],.func (.func 221) #[] #[.pointer (some ⟨g,0,none⟩)],.func (.func 223) #[] #[.pointer (some ⟨g,0,none⟩)]] 195)).alloc (.cells #[.int .i64 0,.int .i64 0] 41)).iter ⟨#[97,98,99]⟩ k).cell? ⟨w.heap.size,0,none⟩=some (.func (.func 220) #[] #[.pointer (some ⟨g,0,none⟩)])):=fun k=>by show (((w.alloc (.cells #[.func (.func 220) #[] #[.pointer (some ⟨g,0,none⟩)],.func (.func 221) #[] #[.pointer (some ⟨g,0,none⟩)],.func (.func 223) #[] #[.pointer (some ⟨g,0,none⟩)]] 195)).alloc (.cells #[.int .i64 0,.int .i64 0] 41)).alloc _).cell? _=_; go_simp
 have F1:Hid (∀ k,(((w.alloc (.cells #[.func (.func 220) #[] #[.pointer (some ⟨g,0,none⟩)],.func (.func 221) #[] #[.pointer (some ⟨g,0,none⟩)],.func (.func 223) #[] #[.pointer (some ⟨g,0,none⟩)]] 195)).alloc (.cells #[.int .i64 0,.int .i64 0] 41)).iter ⟨#[97,98,99]⟩ k).cell? ⟨w.heap.size,1,none⟩=some (.func (.func 221) #[] #[.pointer (some ⟨g,0,none⟩)])):=fun k=>by show (((w.alloc (.cells #[.func (.func 220) #[] #[.pointer (some ⟨g,0,none⟩)],.func (.func 221) #[] #[.pointer (some ⟨g,0,none⟩)],.func (.func 223) #[] #[.pointer (some ⟨g,0,none⟩)]] 195)).alloc (.cells #[.int .i64 0,.int .i64 0] 41)).alloc _).cell? _=_; go_simp
 have F2:Hid (∀ k,(((w.alloc (.cells #[.func (.func 220) #[] #[.pointer (some ⟨g,0,none⟩)],.func (.func 221) #[] #[.pointer (some ⟨g,0,none⟩)],.func (.func 223) #[] #[.pointer (some ⟨g,0,none⟩)]] 195)).alloc (.cells #[.int .i64 0,.int .i64 0] 41)).iter ⟨#[97,98,99]⟩ k).cell? ⟨w.heap.size+1,0,none⟩=some (.int .i64 0)∧(((w.alloc (.cells #[.func (.func 220) #[] #[.pointer (some ⟨g,0,none⟩)],.func (.func 221) #[] #[.pointer (some ⟨g,0,none⟩)],.func (.func 223) #[] #[.pointer (some ⟨g,0,none⟩)]] 195)).alloc (.cells #[.int .i64 0,.int .i64 0] 41)).iter ⟨#[97,98,99]⟩ k).cell? ⟨w.heap.size+1,1,none⟩=some (.int .i64 0)∧(((w.alloc (.cells #[.func (.func 220) #[] #[.pointer (some ⟨g,0,none⟩)],.func (.func 221) #[] #[.pointer (some ⟨g,0,none⟩)],.func (.func 223) #[] #[.pointer (some ⟨g,0,none⟩)]] 195)).alloc (.cells #[.int .i64 0,.int .i64 0] 41)).iter ⟨#[97,98,99]⟩ k).frozen? ⟨w.heap.size+1,0,none⟩=false∧(((w.alloc (.cells #[.func (.func 220) #[] #[.pointer (some ⟨g,0,none⟩)],.func (.func 221) #[] #[.pointer (some ⟨g,0,none⟩)],.func (.func 223) #[] #[.pointer (some ⟨g,0,none⟩)]] 195)).alloc (.cells #[.int .i64 0,.int .i64 0] 41)).iter ⟨#[97,98,99]⟩ k).frozen? ⟨w.heap.size+1,1,none⟩=false):=fun k=>by
  refine ⟨?_,?_,?_,?_⟩
  ·show (((w.alloc (.cells #[.func (.func 220) #[] #[.pointer (some ⟨g,0,none⟩)],.func (.func 221) #[] #[.pointer (some ⟨g,0,none⟩)],.func (.func 223) #[] #[.pointer (some ⟨g,0,none⟩)]] 195)).alloc (.cells #[.int .i64 0,.int .i64 0] 41)).alloc _).cell? _=_; go_simp
  ·show (((w.alloc (.cells #[.func (.func 220) #[] #[.pointer (some ⟨g,0,none⟩)],.func (.func 221) #[] #[.pointer (some ⟨g,0,none⟩)],.func (.func 223) #[] #[.pointer (some ⟨g,0,none⟩)]] 195)).alloc (.cells #[.int .i64 0,.int .i64 0] 41)).alloc _).cell? _=_; go_simp
  ·show (((w.alloc (.cells #[.func (.func 220) #[] #[.pointer (some ⟨g,0,none⟩)],.func (.func 221) #[] #[.pointer (some ⟨g,0,none⟩)],.func (.func 223) #[] #[.pointer (some ⟨g,0,none⟩)]] 195)).alloc (.cells #[.int .i64 0,.int .i64 0] 41)).alloc _).frozen? _=_; go_simp
  ·show (((w.alloc (.cells #[.func (.func 220) #[] #[.pointer (some ⟨g,0,none⟩)],.func (.func 221) #[] #[.pointer (some ⟨g,0,none⟩)],.func (.func 223) #[] #[.pointer (some ⟨g,0,none⟩)]] 195)).alloc (.cells #[.int .i64 0,.int .i64 0] 41)).alloc _).frozen? _=_; go_simp
 have B2:Hid (∀ k,Below w.heap.size w (((w.alloc (.cells #[.func (.func 220) #[] #[.pointer (some ⟨g,0,none⟩)],.func (.func 221) #[] #[.pointer (some ⟨g,0,none⟩)],.func (.func 223) #[] #[.pointer (some ⟨g,0,none⟩)]] 195)).alloc (.cells #[.int .i64 0,.int .i64 0] 41)).iter ⟨#[97,98,99]⟩ k)):=fun k=>((zb_ _ _).trans ((zb_ _ _).mono (by simp))).trans ((x0_ _ _ _).mono (by simp; omega))
 have HZ:Hid (((w.alloc (.cells #[.func (.func 220) #[] #[.pointer (some ⟨g,0,none⟩)],.func (.func 221) #[] #[.pointer (some ⟨g,0,none⟩)],.func (.func 223) #[] #[.pointer (some ⟨g,0,none⟩)]] 195)).alloc (.cells #[.int .i64 0,.int .i64 0] 41)).heap.size=w.heap.size+1+1):=by show _=_; simp
 go_enter Tryz.func246,Tryz.ntmps246;go_wp2;generalize hW2:((w.alloc (.cells #[.func (.func 220) #[] #[.pointer (some ⟨g,0,none⟩)],.func (.func 221) #[] #[.pointer (some ⟨g,0,none⟩)],.func (.func 223) #[] #[.pointer (some ⟨g,0,none⟩)]] 195)).alloc (.cells #[.int .i64 0,.int .i64 0] 41))=W2 at *;clear hW2;go_loopw [4] (fun s4 wr=>∃ pos:Nat,pos<=3∧wr=W2.iter ⟨#[97,98,99]⟩ pos∧(∀ h:0 < s.size,∀ j,j < pos->¬ (s[0]'h).toNat=97+j)) (fun _ wr=>3 - wr.iterPos W2.heap.size)
 case atStart=>exact ⟨0,by omega,rfl,fun h j hj=>by omega⟩
 case round=>
  obtain ⟨pos,hp,rfl,hN0⟩:=hrel;have HN:=hm_ hN0;clear hN0;have hp4:pos=0∨pos=1∨pos=2∨pos=3:=by omega
  rcases hp4 with rfl | rfl | rfl | rfl
  ·have hnx:∀ ty,(Instr.next (.pointer (some ⟨w.heap.size+1+1,0,none⟩)) true ty).run Tryz.prog (W2.iter ⟨#[97,98,99]⟩ 0)=.ok (.tuple #[.bool true,.int .i64 0,.int .i32 97]) (W2.iter ⟨#[97,98,99]⟩ 1):=fun ty=>by rw [<- HZ.out]; exact run_next_ascii W2 ⟨#[97,98,99]⟩ 0 ty (by decide) (by decide)
   have f0:=F0.out 1;by_cases hs0:s.size=0
   ·have HN':Hid (∀ h:0 < s.size,∀ j,j < 1->¬ (s[0]'h).toNat=97+j):=fun h=>by omega
    go_wp2_with fail;refine (yy_ g s 97 _ (zu_ HL.out (B2.out 1) hg).1 hs0).mono ?_;rintro e w' ⟨rfl,rfl⟩;go_wp2
    go_roundw
    case rel=>exact ⟨1,by omega,rfl,HN'.out⟩
    case measure=>simp
   have hs1:0 < s.size:=by omega
   by_cases hc:(s[0]'hs1).toNat=97
   ·go_wp2_with fail;refine (yY_ g s 97 _ (zu_ HL.out (B2.out 1) hg).1 (zu_ HL.out (B2.out 1) hg).2 hs1 hc).mono ?_;rintro e W3 ⟨rfl,hW3⟩;obtain ⟨r0',r1',q0',q1'⟩:=F2.out 1;have f1:W3.cell? ⟨w.heap.size,1,none⟩=some (.func (.func 221) #[] #[.pointer (some ⟨g,0,none⟩)]):=by rw [hW3]; exact zg_ (F1.out 1) (by omega)
    have r0:W3.cell? ⟨w.heap.size+1,0,none⟩=some (.int .i64 0):=by rw [hW3]; exact zg_ r0' (by omega)
    have r1:W3.cell? ⟨w.heap.size+1,1,none⟩=some (.int .i64 0):=by rw [hW3]; exact zg_ r1' (by omega)
    have q0:W3.frozen? ⟨w.heap.size+1,0,none⟩=false:=by rw [hW3,World.frozen?_setCell]; exact q0'
    have q1:W3.frozen? ⟨w.heap.size+1,1,none⟩=false:=by rw [hW3,World.frozen?_setCell]; exact q1'
    have L3:Hid (Left W3 g (s.extract 1 s.size)):=by rw [hW3]; exact xV_ (zu_ HL.out (B2.out 1) hg)
    have G3:Hid (w.grownBy W3 (some g)):=by rw [hW3]; exact zX_ (z4_ (B2.out 1)) (wp_ _ _ _ _)
    have hz3:w.heap.size+1 < W3.heap.size:=by rw [hW3]; simp only [World.setCell,Array.size_modify]; show _ < (W2.alloc _).heap.size; rw [World.size_alloc,HZ.out]; omega
    obtain ⟨n',k,hnk0⟩:∃ n' k,ld 9999 (bl (s.extract 1 s.size))=(n',k):=⟨_,_,rfl⟩;have hnk:=hm_ hnk0;have HRR:Hid (p=0∧n=n'∧ok=(decide (0 < k) && dotB 0 n')∧rest=(bl (s.extract 1 s.size)).drop k):=r0_ hR hs1 (c:=0) (by omega) hc hnk0;clear hnk0 hW3 r0' r1' q0' q1' f0 hc;go_wp2_with fail;refine (yv_ g (s.extract 1 s.size) 9999 n' k hnk _ L3.out (by omega) (by omega) (by omega) (by rw [yz_ s 1 hs1]; omega)).mono ?_;rintro e w4 ⟨rfl,hL4,hg4⟩;replace r0:=hg4.cell r0 (fun e=>by simp at e; omega);replace r1:=hg4.cell r1 (fun e=>by simp at e; omega);replace q0:w4.frozen? ⟨w.heap.size+1,0,none⟩=false:=by rw [World.frozen?_of_block (w:=W3) (hg4.block (w.heap.size+1) hz3 (fun e=>by simp at e; omega))]; exact q0
    replace q1:w4.frozen? ⟨w.heap.size+1,1,none⟩=false:=by rw [World.frozen?_of_block (w:=W3) (hg4.block (w.heap.size+1) hz3 (fun e=>by simp at e; omega))]; exact q1
    have hz4:w.heap.size+1 < w4.heap.size:=Nat.lt_of_lt_of_le hz3 hg4.size;have L4:Hid (Left w4 g _):=hL4;have G4:Hid (w.grownBy w4 (some g)):=zX_ G3.out hg4;clear hL4 hg4 f1 L3 G3 hz3;by_cases hk:0 < k
    ·have hkd:decide (0 < k)=true:=decide_eq_true hk;rw [hkd];go_wp2;have HW:Below w4.heap.size w4 (w4.alloc (.cells #[.int .i64 0,.int .i64 n'] 41)).drew:=(zb_ _ _).drew;refine wp_region_held_drew (S:=(fun w'=>w'.cell? ⟨w4.heap.size,0,none⟩=some (.int .i64 0)∧w'.cell? ⟨w4.heap.size,1,none⟩=some (.int .i64 n')∧w4.heap.size < w'.heap.size)) (by kernel_rfl) ?_ (fun hH=>?_)
     ·(try dsimp only);exact ⟨by go_simp,by go_simp,by simp⟩
     refine wTk 0 ?_;refine wTk 1 ?_;refine wTk 2 ?_;refine wTk 3 ?_;refine wRd 4 (fun K hK=>?_);go_simp
     (go_at_call 156; refine (wl_ 0 n' _).mono ?_; rintro e w5 ⟨rfl,hb⟩; replace HW:=(ze_ HW hb).out)
     (try simp only []);refine hK.out _ _ ?_ (fun hH'=>?_)
     ·(try dsimp only);exact ⟨za_ hb hH.1 hH.2.2,za_ hb hH.2.1 hH.2.2,Nat.lt_of_lt_of_le hH.2.2 hb.size⟩
     clear hK K hH;have hH:=hH';clear hH';clear hb;refine wLy ?_;refine wTk 5 ?_;have T0:=za_ HW r0 hz4;have T1:=za_ HW r1 hz4;have Z0:=zf_ HW q0 hz4;have Z1:=zf_ HW q1 hz4;refine wRd 6 (fun K hK=>?_);go_simp;(try simp only []);refine wHk hK (⟨zg_ (zg_ hH.1 (by omega)) (by omega),zg_ (zg_ hH.2.1 (by omega)) (by omega),by simpa [World.setCell] using hH.2.2⟩) ?_;clear hK K hH;intro hH;refine wTk 7 ?_;refine wDn ?_;have HWW:Hid (Below w4.heap.size w4 _):=HW;clear hH r0 r1 q0 q1 HW;go_wp2;(try rw [Exit.noGoto_ret]);refine bodyPost_ret (v:=.tuple #[.agg #[.int .i64 0,.int .i64 n'],.bool (dotB 0 n')]) (by simp [results,Tryz.results246,go_sem,T0,T1,Z0,Z1]) rfl ⟨by rw [HRR.out.1,HRR.out.2.1,HRR.out.2.2.1,hkd]; simp,_,yM_ (zu_ L4.out HWW.out (Nat.lt_trans hg (by omega))) (by omega),(xm_ _ _ (vq_ hnk (by decide))).trans HRR.out.2.2.2.symm,zD_ (zD_ (zX_ G4.out (z4_ HWW.out)) (by omega)) (by omega)⟩
    ·have hkd:decide (0 < k)=false:=decide_eq_false hk;rw [hkd];go_wp2;have HW:Below w4.heap.size w4 (w4.alloc (.cells #[.int .i64 0,.int .i64 n'] 41)).drew:=(zb_ _ _).drew;refine wp_region_held_drew (S:=(fun w'=>w'.cell? ⟨w4.heap.size,0,none⟩=some (.int .i64 0)∧w'.cell? ⟨w4.heap.size,1,none⟩=some (.int .i64 n')∧w4.heap.size < w'.heap.size)) (by kernel_rfl) ?_ (fun hH=>?_)
     ·(try dsimp only);exact ⟨by go_simp,by go_simp,by simp⟩
     refine wTk 0 ?_;refine wTk 1 ?_;refine wTk 2 ?_;refine wTn 3 ?_;refine wTn 4 ?_;refine wTk 5 ?_;generalize (w4.alloc (.cells #[.int .i64 0,.int .i64 n'] 41)).drew=w5 at *;have T0:=za_ HW r0 hz4;have T1:=za_ HW r1 hz4;have Z0:=zf_ HW q0 hz4;have Z1:=zf_ HW q1 hz4;refine wRd 6 (fun K hK=>?_);go_simp;(try simp only []);refine wHk hK (⟨zg_ (zg_ hH.1 (by omega)) (by omega),zg_ (zg_ hH.2.1 (by omega)) (by omega),by simpa [World.setCell] using hH.2.2⟩) ?_;clear hK K hH;intro hH;refine wTk 7 ?_;refine wDn ?_;have HWW:Hid (Below w4.heap.size w4 _):=HW;clear hH r0 r1 q0 q1 HW;go_wp2;(try rw [Exit.noGoto_ret]);refine bodyPost_ret (v:=.tuple #[.agg #[.int .i64 0,.int .i64 n'],.bool false]) (by simp [results,Tryz.results246,go_sem,T0,T1,Z0,Z1]) rfl ⟨by rw [HRR.out.1,HRR.out.2.1,HRR.out.2.2.1,hkd]; simp,_,yM_ (zu_ L4.out HWW.out (Nat.lt_trans hg (by omega))) (by omega),(xm_ _ _ (vq_ hnk (by decide))).trans HRR.out.2.2.2.symm,zD_ (zD_ (zX_ G4.out (z4_ HWW.out)) (by omega)) (by omega)⟩
   ·have HN':Hid (∀ h:0 < s.size,∀ j,j < 1->¬ (s[0]'h).toNat=97+j):=fun h j hj=>by
     by_cases e:j=0
     ·subst e; exact hc
     ·exact HN.out h j (by omega)
    go_wp2_with fail;refine (yc_ g s 97 _ (zu_ HL.out (B2.out 1) hg).1 hs1 hc).mono ?_;rintro e w' ⟨rfl,rfl⟩;go_wp2
    go_roundw
    case rel=>exact ⟨1,by omega,rfl,HN'.out⟩
    case measure=>simp
  ·have hnx:∀ ty,(Instr.next (.pointer (some ⟨w.heap.size+1+1,0,none⟩)) true ty).run Tryz.prog (W2.iter ⟨#[97,98,99]⟩ 1)=.ok (.tuple #[.bool true,.int .i64 1,.int .i32 98]) (W2.iter ⟨#[97,98,99]⟩ 2):=fun ty=>by rw [<- HZ.out]; exact run_next_ascii W2 ⟨#[97,98,99]⟩ 1 ty (by decide) (by decide)
   have f0:=F0.out 2;by_cases hs0:s.size=0
   ·have HN':Hid (∀ h:0 < s.size,∀ j,j < 2->¬ (s[0]'h).toNat=97+j):=fun h=>by omega
    go_wp2_with fail;refine (yy_ g s 98 _ (zu_ HL.out (B2.out 2) hg).1 hs0).mono ?_;rintro e w' ⟨rfl,rfl⟩;go_wp2
    go_roundw
    case rel=>exact ⟨2,by omega,rfl,HN'.out⟩
    case measure=>simp
   have hs1:0 < s.size:=by omega
   by_cases hc:(s[0]'hs1).toNat=98
   ·go_wp2_with fail;refine (yY_ g s 98 _ (zu_ HL.out (B2.out 2) hg).1 (zu_ HL.out (B2.out 2) hg).2 hs1 hc).mono ?_;rintro e W3 ⟨rfl,hW3⟩;obtain ⟨r0',r1',q0',q1'⟩:=F2.out 2;have f1:W3.cell? ⟨w.heap.size,1,none⟩=some (.func (.func 221) #[] #[.pointer (some ⟨g,0,none⟩)]):=by rw [hW3]; exact zg_ (F1.out 2) (by omega)
    have r0:W3.cell? ⟨w.heap.size+1,0,none⟩=some (.int .i64 0):=by rw [hW3]; exact zg_ r0' (by omega)
    have r1:W3.cell? ⟨w.heap.size+1,1,none⟩=some (.int .i64 0):=by rw [hW3]; exact zg_ r1' (by omega)
    have q0:W3.frozen? ⟨w.heap.size+1,0,none⟩=false:=by rw [hW3,World.frozen?_setCell]; exact q0'
    have q1:W3.frozen? ⟨w.heap.size+1,1,none⟩=false:=by rw [hW3,World.frozen?_setCell]; exact q1'
    have L3:Hid (Left W3 g (s.extract 1 s.size)):=by rw [hW3]; exact xV_ (zu_ HL.out (B2.out 2) hg)
    have G3:Hid (w.grownBy W3 (some g)):=by rw [hW3]; exact zX_ (z4_ (B2.out 2)) (wp_ _ _ _ _)
    have hz3:w.heap.size+1 < W3.heap.size:=by rw [hW3]; simp only [World.setCell,Array.size_modify]; show _ < (W2.alloc _).heap.size; rw [World.size_alloc,HZ.out]; omega
    obtain ⟨n',k,hnk0⟩:∃ n' k,ld 9999 (bl (s.extract 1 s.size))=(n',k):=⟨_,_,rfl⟩;have hnk:=hm_ hnk0;have HRR:Hid (p=1∧n=n'∧ok=(decide (0 < k) && dotB 1 n')∧rest=(bl (s.extract 1 s.size)).drop k):=r0_ hR hs1 (c:=1) (by omega) hc hnk0;clear hnk0 hW3 r0' r1' q0' q1' f0 hc;go_wp2_with fail;refine (yv_ g (s.extract 1 s.size) 9999 n' k hnk _ L3.out (by omega) (by omega) (by omega) (by rw [yz_ s 1 hs1]; omega)).mono ?_;rintro e w4 ⟨rfl,hL4,hg4⟩;replace r0:=hg4.cell r0 (fun e=>by simp at e; omega);replace r1:=hg4.cell r1 (fun e=>by simp at e; omega);replace q0:w4.frozen? ⟨w.heap.size+1,0,none⟩=false:=by rw [World.frozen?_of_block (w:=W3) (hg4.block (w.heap.size+1) hz3 (fun e=>by simp at e; omega))]; exact q0
    replace q1:w4.frozen? ⟨w.heap.size+1,1,none⟩=false:=by rw [World.frozen?_of_block (w:=W3) (hg4.block (w.heap.size+1) hz3 (fun e=>by simp at e; omega))]; exact q1
    have hz4:w.heap.size+1 < w4.heap.size:=Nat.lt_of_lt_of_le hz3 hg4.size;have L4:Hid (Left w4 g _):=hL4;have G4:Hid (w.grownBy w4 (some g)):=zX_ G3.out hg4;clear hL4 hg4 f1 L3 G3 hz3;by_cases hk:0 < k
    ·have hkd:decide (0 < k)=true:=decide_eq_true hk;rw [hkd];go_wp2;have HW:Below w4.heap.size w4 (w4.alloc (.cells #[.int .i64 1,.int .i64 n'] 41)).drew:=(zb_ _ _).drew;refine wp_region_held_drew (S:=(fun w'=>w'.cell? ⟨w4.heap.size,0,none⟩=some (.int .i64 1)∧w'.cell? ⟨w4.heap.size,1,none⟩=some (.int .i64 n')∧w4.heap.size < w'.heap.size)) (by kernel_rfl) ?_ (fun hH=>?_)
     ·(try dsimp only);exact ⟨by go_simp,by go_simp,by simp⟩
     refine wTk 0 ?_;refine wTk 1 ?_;refine wTk 2 ?_;refine wTk 3 ?_;refine wRd 4 (fun K hK=>?_);go_simp
     (go_at_call 156; refine (wl_ 1 n' _).mono ?_; rintro e w5 ⟨rfl,hb⟩; replace HW:=(ze_ HW hb).out)
     (try simp only []);refine hK.out _ _ ?_ (fun hH'=>?_)
     ·(try dsimp only);exact ⟨za_ hb hH.1 hH.2.2,za_ hb hH.2.1 hH.2.2,Nat.lt_of_lt_of_le hH.2.2 hb.size⟩
     clear hK K hH;have hH:=hH';clear hH';clear hb;refine wLy ?_;refine wTk 5 ?_;have T0:=za_ HW r0 hz4;have T1:=za_ HW r1 hz4;have Z0:=zf_ HW q0 hz4;have Z1:=zf_ HW q1 hz4;refine wRd 6 (fun K hK=>?_);go_simp;(try simp only []);refine wHk hK (⟨zg_ (zg_ hH.1 (by omega)) (by omega),zg_ (zg_ hH.2.1 (by omega)) (by omega),by simpa [World.setCell] using hH.2.2⟩) ?_;clear hK K hH;intro hH;refine wTk 7 ?_;refine wDn ?_;have HWW:Hid (Below w4.heap.size w4 _):=HW;clear hH r0 r1 q0 q1 HW;go_wp2;(try rw [Exit.noGoto_ret]);refine bodyPost_ret (v:=.tuple #[.agg #[.int .i64 1,.int .i64 n'],.bool (dotB 1 n')]) (by simp [results,Tryz.results246,go_sem,T0,T1,Z0,Z1]) rfl ⟨by rw [HRR.out.1,HRR.out.2.1,HRR.out.2.2.1,hkd]; simp,_,yM_ (zu_ L4.out HWW.out (Nat.lt_trans hg (by omega))) (by omega),(xm_ _ _ (vq_ hnk (by decide))).trans HRR.out.2.2.2.symm,zD_ (zD_ (zX_ G4.out (z4_ HWW.out)) (by omega)) (by omega)⟩
    ·have hkd:decide (0 < k)=false:=decide_eq_false hk;rw [hkd];go_wp2;have HW:Below w4.heap.size w4 (w4.alloc (.cells #[.int .i64 1,.int .i64 n'] 41)).drew:=(zb_ _ _).drew;refine wp_region_held_drew (S:=(fun w'=>w'.cell? ⟨w4.heap.size,0,none⟩=some (.int .i64 1)∧w'.cell? ⟨w4.heap.size,1,none⟩=some (.int .i64 n')∧w4.heap.size < w'.heap.size)) (by kernel_rfl) ?_ (fun hH=>?_)
     ·(try dsimp only);exact ⟨by go_simp,by go_simp,by simp⟩
     refine wTk 0 ?_;refine wTk 1 ?_;refine wTk 2 ?_;refine wTn 3 ?_;refine wTn 4 ?_;refine wTk 5 ?_;generalize (w4.alloc (.cells #[.int .i64 1,.int .i64 n'] 41)).drew=w5 at *;have T0:=za_ HW r0 hz4;have T1:=za_ HW r1 hz4;have Z0:=zf_ HW q0 hz4;have Z1:=zf_ HW q1 hz4;refine wRd 6 (fun K hK=>?_);go_simp;(try simp only []);refine wHk hK (⟨zg_ (zg_ hH.1 (by omega)) (by omega),zg_ (zg_ hH.2.1 (by omega)) (by omega),by simpa [World.setCell] using hH.2.2⟩) ?_;clear hK K hH;intro hH;refine wTk 7 ?_;refine wDn ?_;have HWW:Hid (Below w4.heap.size w4 _):=HW;clear hH r0 r1 q0 q1 HW;go_wp2;(try rw [Exit.noGoto_ret]);refine bodyPost_ret (v:=.tuple #[.agg #[.int .i64 1,.int .i64 n'],.bool false]) (by simp [results,Tryz.results246,go_sem,T0,T1,Z0,Z1]) rfl ⟨by rw [HRR.out.1,HRR.out.2.1,HRR.out.2.2.1,hkd]; simp,_,yM_ (zu_ L4.out HWW.out (Nat.lt_trans hg (by omega))) (by omega),(xm_ _ _ (vq_ hnk (by decide))).trans HRR.out.2.2.2.symm,zD_ (zD_ (zX_ G4.out (z4_ HWW.out)) (by omega)) (by omega)⟩
   ·have HN':Hid (∀ h:0 < s.size,∀ j,j < 2->¬ (s[0]'h).toNat=97+j):=fun h j hj=>by
     by_cases e:j=1
     ·subst e; exact hc
     ·exact HN.out h j (by omega)
    go_wp2_with fail;refine (yc_ g s 98 _ (zu_ HL.out (B2.out 2) hg).1 hs1 hc).mono ?_;rintro e w' ⟨rfl,rfl⟩;go_wp2
    go_roundw
    case rel=>exact ⟨2,by omega,rfl,HN'.out⟩
    case measure=>simp
  ·have hnx:∀ ty,(Instr.next (.pointer (some ⟨w.heap.size+1+1,0,none⟩)) true ty).run Tryz.prog (W2.iter ⟨#[97,98,99]⟩ 2)=.ok (.tuple #[.bool true,.int .i64 2,.int .i32 99]) (W2.iter ⟨#[97,98,99]⟩ 3):=fun ty=>by rw [<- HZ.out]; exact run_next_ascii W2 ⟨#[97,98,99]⟩ 2 ty (by decide) (by decide)
   have f0:=F0.out 3;by_cases hs0:s.size=0
   ·have HN':Hid (∀ h:0 < s.size,∀ j,j < 3->¬ (s[0]'h).toNat=97+j):=fun h=>by omega
    go_wp2_with fail;refine (yy_ g s 99 _ (zu_ HL.out (B2.out 3) hg).1 hs0).mono ?_;rintro e w' ⟨rfl,rfl⟩;go_wp2
    go_roundw
    case rel=>exact ⟨3,by omega,rfl,HN'.out⟩
    case measure=>simp
   have hs1:0 < s.size:=by omega
   by_cases hc:(s[0]'hs1).toNat=99
   ·go_wp2_with fail;refine (yY_ g s 99 _ (zu_ HL.out (B2.out 3) hg).1 (zu_ HL.out (B2.out 3) hg).2 hs1 hc).mono ?_;rintro e W3 ⟨rfl,hW3⟩;obtain ⟨r0',r1',q0',q1'⟩:=F2.out 3;have f1:W3.cell? ⟨w.heap.size,1,none⟩=some (.func (.func 221) #[] #[.pointer (some ⟨g,0,none⟩)]):=by rw [hW3]; exact zg_ (F1.out 3) (by omega)
    have r0:W3.cell? ⟨w.heap.size+1,0,none⟩=some (.int .i64 0):=by rw [hW3]; exact zg_ r0' (by omega)
    have r1:W3.cell? ⟨w.heap.size+1,1,none⟩=some (.int .i64 0):=by rw [hW3]; exact zg_ r1' (by omega)
    have q0:W3.frozen? ⟨w.heap.size+1,0,none⟩=false:=by rw [hW3,World.frozen?_setCell]; exact q0'
    have q1:W3.frozen? ⟨w.heap.size+1,1,none⟩=false:=by rw [hW3,World.frozen?_setCell]; exact q1'
    have L3:Hid (Left W3 g (s.extract 1 s.size)):=by rw [hW3]; exact xV_ (zu_ HL.out (B2.out 3) hg)
    have G3:Hid (w.grownBy W3 (some g)):=by rw [hW3]; exact zX_ (z4_ (B2.out 3)) (wp_ _ _ _ _)
    have hz3:w.heap.size+1 < W3.heap.size:=by rw [hW3]; simp only [World.setCell,Array.size_modify]; show _ < (W2.alloc _).heap.size; rw [World.size_alloc,HZ.out]; omega
    obtain ⟨n',k,hnk0⟩:∃ n' k,ld 9999 (bl (s.extract 1 s.size))=(n',k):=⟨_,_,rfl⟩;have hnk:=hm_ hnk0;have HRR:Hid (p=2∧n=n'∧ok=(decide (0 < k) && dotB 2 n')∧rest=(bl (s.extract 1 s.size)).drop k):=r0_ hR hs1 (c:=2) (by omega) hc hnk0;clear hnk0 hW3 r0' r1' q0' q1' f0 hc;go_wp2_with fail;refine (yv_ g (s.extract 1 s.size) 9999 n' k hnk _ L3.out (by omega) (by omega) (by omega) (by rw [yz_ s 1 hs1]; omega)).mono ?_;rintro e w4 ⟨rfl,hL4,hg4⟩;replace r0:=hg4.cell r0 (fun e=>by simp at e; omega);replace r1:=hg4.cell r1 (fun e=>by simp at e; omega);replace q0:w4.frozen? ⟨w.heap.size+1,0,none⟩=false:=by rw [World.frozen?_of_block (w:=W3) (hg4.block (w.heap.size+1) hz3 (fun e=>by simp at e; omega))]; exact q0
    replace q1:w4.frozen? ⟨w.heap.size+1,1,none⟩=false:=by rw [World.frozen?_of_block (w:=W3) (hg4.block (w.heap.size+1) hz3 (fun e=>by simp at e; omega))]; exact q1
    have hz4:w.heap.size+1 < w4.heap.size:=Nat.lt_of_lt_of_le hz3 hg4.size;have L4:Hid (Left w4 g _):=hL4;have G4:Hid (w.grownBy w4 (some g)):=zX_ G3.out hg4;clear hL4 hg4 f1 L3 G3 hz3;by_cases hk:0 < k
    ·have hkd:decide (0 < k)=true:=decide_eq_true hk;rw [hkd];go_wp2;have HW:Below w4.heap.size w4 (w4.alloc (.cells #[.int .i64 2,.int .i64 n'] 41)).drew:=(zb_ _ _).drew;refine wp_region_held_drew (S:=(fun w'=>w'.cell? ⟨w4.heap.size,0,none⟩=some (.int .i64 2)∧w'.cell? ⟨w4.heap.size,1,none⟩=some (.int .i64 n')∧w4.heap.size < w'.heap.size)) (by kernel_rfl) ?_ (fun hH=>?_)
     ·(try dsimp only);exact ⟨by go_simp,by go_simp,by simp⟩
     refine wTk 0 ?_;refine wTk 1 ?_;refine wTk 2 ?_;refine wTk 3 ?_;refine wRd 4 (fun K hK=>?_);go_simp
     (go_at_call 156; refine (wl_ 2 n' _).mono ?_; rintro e w5 ⟨rfl,hb⟩; replace HW:=(ze_ HW hb).out)
     (try simp only []);refine hK.out _ _ ?_ (fun hH'=>?_)
     ·(try dsimp only);exact ⟨za_ hb hH.1 hH.2.2,za_ hb hH.2.1 hH.2.2,Nat.lt_of_lt_of_le hH.2.2 hb.size⟩
     clear hK K hH;have hH:=hH';clear hH';clear hb;refine wLy ?_;refine wTk 5 ?_;have T0:=za_ HW r0 hz4;have T1:=za_ HW r1 hz4;have Z0:=zf_ HW q0 hz4;have Z1:=zf_ HW q1 hz4;refine wRd 6 (fun K hK=>?_);go_simp;(try simp only []);refine wHk hK (⟨zg_ (zg_ hH.1 (by omega)) (by omega),zg_ (zg_ hH.2.1 (by omega)) (by omega),by simpa [World.setCell] using hH.2.2⟩) ?_;clear hK K hH;intro hH;refine wTk 7 ?_;refine wDn ?_;have HWW:Hid (Below w4.heap.size w4 _):=HW;clear hH r0 r1 q0 q1 HW;go_wp2;(try rw [Exit.noGoto_ret]);refine bodyPost_ret (v:=.tuple #[.agg #[.int .i64 2,.int .i64 n'],.bool (dotB 2 n')]) (by simp [results,Tryz.results246,go_sem,T0,T1,Z0,Z1]) rfl ⟨by rw [HRR.out.1,HRR.out.2.1,HRR.out.2.2.1,hkd]; simp,_,yM_ (zu_ L4.out HWW.out (Nat.lt_trans hg (by omega))) (by omega),(xm_ _ _ (vq_ hnk (by decide))).trans HRR.out.2.2.2.symm,zD_ (zD_ (zX_ G4.out (z4_ HWW.out)) (by omega)) (by omega)⟩
    ·have hkd:decide (0 < k)=false:=decide_eq_false hk;rw [hkd];go_wp2;have HW:Below w4.heap.size w4 (w4.alloc (.cells #[.int .i64 2,.int .i64 n'] 41)).drew:=(zb_ _ _).drew;refine wp_region_held_drew (S:=(fun w'=>w'.cell? ⟨w4.heap.size,0,none⟩=some (.int .i64 2)∧w'.cell? ⟨w4.heap.size,1,none⟩=some (.int .i64 n')∧w4.heap.size < w'.heap.size)) (by kernel_rfl) ?_ (fun hH=>?_)
     ·(try dsimp only);exact ⟨by go_simp,by go_simp,by simp⟩
     refine wTk 0 ?_;refine wTk 1 ?_;refine wTk 2 ?_;refine wTn 3 ?_;refine wTn 4 ?_;refine wTk 5 ?_;generalize (w4.alloc (.cells #[.int .i64 2,.int .i64 n'] 41)).drew=w5 at *;have T0:=za_ HW r0 hz4;have T1:=za_ HW r1 hz4;have Z0:=zf_ HW q0 hz4;have Z1:=zf_ HW q1 hz4;refine wRd 6 (fun K hK=>?_);go_simp;(try simp only []);refine wHk hK (⟨zg_ (zg_ hH.1 (by omega)) (by omega),zg_ (zg_ hH.2.1 (by omega)) (by omega),by simpa [World.setCell] using hH.2.2⟩) ?_;clear hK K hH;intro hH;refine wTk 7 ?_;refine wDn ?_;have HWW:Hid (Below w4.heap.size w4 _):=HW;clear hH r0 r1 q0 q1 HW;go_wp2;(try rw [Exit.noGoto_ret]);refine bodyPost_ret (v:=.tuple #[.agg #[.int .i64 2,.int .i64 n'],.bool false]) (by simp [results,Tryz.results246,go_sem,T0,T1,Z0,Z1]) rfl ⟨by rw [HRR.out.1,HRR.out.2.1,HRR.out.2.2.1,hkd]; simp,_,yM_ (zu_ L4.out HWW.out (Nat.lt_trans hg (by omega))) (by omega),(xm_ _ _ (vq_ hnk (by decide))).trans HRR.out.2.2.2.symm,zD_ (zD_ (zX_ G4.out (z4_ HWW.out)) (by omega)) (by omega)⟩
   ·have HN':Hid (∀ h:0 < s.size,∀ j,j < 3->¬ (s[0]'h).toNat=97+j):=fun h j hj=>by
     by_cases e:j=2
     ·subst e; exact hc
     ·exact HN.out h j (by omega)
    go_wp2_with fail;refine (yc_ g s 99 _ (zu_ HL.out (B2.out 3) hg).1 hs1 hc).mono ?_;rintro e w' ⟨rfl,rfl⟩;go_wp2
    go_roundw
    case rel=>exact ⟨3,by omega,rfl,HN'.out⟩
    case measure=>simp
  ·have hnx:∀ ty,(Instr.next (.pointer (some ⟨w.heap.size+1+1,0,none⟩)) true ty).run Tryz.prog (W2.iter ⟨#[97,98,99]⟩ 3)=.ok (.tuple #[.bool false]) (W2.iter ⟨#[97,98,99]⟩ 3):=fun ty=>by rw [<- HZ.out]; exact run_next_end W2 ⟨#[97,98,99]⟩ 3 ty (by decide)
   obtain ⟨r0,r1,q0,q1⟩:=F2.out 3;have HM:Hid (p=0∧n=0∧ok=false∧rest=bl s):=on_ hR HN.out;have L3:Hid (Left (W2.iter ⟨#[97,98,99]⟩ 3) g s):=zu_ HL.out (B2.out 3) hg;have G3:Hid (w.grownBy (W2.iter ⟨#[97,98,99]⟩ 3) (some g)):=z4_ (B2.out 3);go_wp2;(try rw [Exit.noGoto_ret]);refine bodyPost_ret (v:=.tuple #[.agg #[.int .i64 0,.int .i64 0],.bool false]) (by simp [results,Tryz.results246,go_sem,r0,r1,q0,q1]) rfl ⟨by rw [HM.out.1,HM.out.2.1,HM.out.2.2.1],s,yM_ L3.out (by omega),HM.out.2.2.2.symm,zD_ (zD_ G3.out (by omega)) (by omega)⟩
end
section
variable {W:World} {b:Nat} {v:Value}
theorem n3_ (s:ByteArray):(⟨(bl s).toArray⟩:ByteArray)=s:=by
 apply ByteArray.ext;simp [bl]
theorem zL_ {o:Nat} {ob:Obj} (h:W.cell? ⟨b,o,none⟩=some v) (hb:b < W.heap.size):(W.alloc ob).cell? ⟨b,o,none⟩=some v:=za_ (zb_ _ _) h hb
theorem z0_ {o:Nat} {ob:Obj} (h:W.frozen? ⟨b,o,none⟩=false) (hb:b < W.heap.size):(W.alloc ob).frozen? ⟨b,o,none⟩=false:=zf_ (zb_ _ _) h hb
def N3P (w:World) (e:Ending) (w':World):Prop:=∃ n:Int,e=.returned (.tuple #[.int .i64 n,.bool false])∧Below w.heap.size w w'
theorem wj_ (n a b:Int) (w:World) (h1:a<=n) (h2:n<=b) :
  Calls Tryz.prog 48 #[.int .i64 n,.int .i64 a,.int .i64 b] w fun e w'=>e=.returned (.bool true)∧w'=w:=by
 go_enter Tryz.func48,Tryz.ntmps48;go_wp2;go_ret;exact ⟨rfl,rfl⟩
theorem pF_ (n a b:Int) (w:World) (h:n < a∨(a<=n∧b < n)) :
  Calls Tryz.prog 48 #[.int .i64 n,.int .i64 a,.int .i64 b] w fun e w'=>e=.returned (.bool false)∧w'=w:=by
 rcases h with h | ⟨h1,h⟩
 ·have h1:¬ a<=n:=by omega
  go_enter Tryz.func48,Tryz.ntmps48;go_wp2;go_ret;exact ⟨rfl,rfl⟩
 ·have h2:¬ n<=b:=by omega
  go_enter Tryz.func48,Tryz.ntmps48;go_wp2;go_ret;exact ⟨rfl,rfl⟩
def tdR:List UInt8->Prop
 | []=>False
 | c :: r=>(97<=c.toNat∧c.toNat<=99)∧(Num r∧r.length<=18)∧dotB ((c.toNat:Int) - 97) (nv r)=true
def tdV:List UInt8->Int × Int
 | []=>(0,0)
 | c :: r=>((c.toNat:Int) - 97,nv r)
end
section
variable {W W' w:World} {b g:Nat} {s:ByteArray}
theorem qY_ (h:s.size=0):bl s=[]:=List.length_eq_zero_iff.1 (by rw [zF_]; exact h)
theorem ts_ (h:Below w.heap.size w W) (hg:W.grownBy W' (some g)) (hr:w.heap.size<=g):Below w.heap.size w W':=
 ⟨hg.os.trans h.os,hg.tape.trans h.tape,hg.output.trans h.output,Nat.le_trans h.size hg.size,fun b hb=>(hg.block b (Nat.lt_of_lt_of_le hb h.size) (fun e=>by cases e; omega)).trans (h.block b hb)⟩
theorem zC_ {o:Nat} (hg:W.grownBy W' (some g)) (h:W.frozen? ⟨b,o,none⟩=false) (hb:b < W.heap.size) (hne:b≠g):W'.frozen? ⟨b,o,none⟩=false:=by
 rw [World.frozen?_of_block (w:=W) (hg.block b hb (fun e=>by cases e; exact hne rfl))]; exact h
end
section
variable {W w wr':World} {b g i k o1:Nat} {most x y z:Int} {s s':ByteArray} {u v:Value}
def NoD (t:List UInt8):Prop:=∀ c,t.head? = some c->dg c=false
theorem oI_ (most:Int) (t:List UInt8) (i:Nat) (n:Int) (h:NoD t):ldG most t i n=(n,i):=by
 cases t with
 | nil=>rfl
 | cons c t=>rw [ldG,if_pos (h c rfl)]
theorem qp_ (most:Int) (t:List UInt8) (ht:NoD t):∀ (l:List UInt8) (i:Nat) (n:Int),0<=n->n<=most->(0 < i->0 < n∨l=[])->(∀ c ∈ l,dg c=true)->(i=0->n=0∧(1 < l.length->l.head? ≠ some 48))->l.foldl (fun n c=>10 * n+((c.toNat:Int) - 48)) n<=most->ldG most (l++t) i n=(l.foldl (fun n c=>10 * n+((c.toNat:Int) - 48)) n,i+l.length)
 | [],i,n,_,_,_,_,_,_=>by simpa using oI_ most t i n ht
 | c :: l,i,n,hn,hm,hi,hd,h0,hb=>by
  have hc:=hd c (by simp);have hc':=yp_.1 hc;have hge:=ut_ l (10 * n+((c.toNat:Int) - 48)) (by omega) (fun d hd'=>hd d (List.mem_cons_of_mem _ hd'));simp only [List.foldl_cons] at hb;rw [List.cons_append,ldG,if_neg (by simp [hc])]
  have hz:¬ (0 < i∧n=0):=by
   rintro ⟨h1,h2⟩;rcases hi h1 with h3 | h3
   ·omega
   ·cases h3
  rw [if_neg hz,if_neg (by omega)];rw [qp_ most t ht l (i+1) _ (by omega) (by omega) (fun _=>?_) (fun d hd'=>hd d (List.mem_cons_of_mem _ hd')) (fun h=>by omega) hb]
  ·simp only [List.foldl_cons,List.length_cons]
   congr 1
   omega
  ·by_cases hi0:i=0
   ·obtain ⟨hn0,hh⟩:=h0 hi0;cases l with
    | nil=>exact .inr rfl
    | cons d l=>
     left
     have:c≠48:=fun e=>hh (by simp) (by simp [e])
     have:c.toNat≠48:=fun e=>this (UInt8.toNat_inj.1 (by simpa using e))
     omega
   ·left;rcases hi (by omega) with h3 | h3
    ·omega
    ·cases h3
theorem qn_ {a t:List UInt8} (h:Num a) (h0:0<=most) (hb:nv a<=most) (ht:NoD t):ld most (a++t)=(nv a,a.length):=by
 have:=qp_ most t ht a 0 0 (by omega) h0 (fun h=>by omega) h.2.1 (fun _=>⟨rfl,h.2.2⟩) hb
 rw [Nat.zero_add] at this;exact this
theorem qq_ (most:Int):∀ (l:List UInt8) (i:Nat) (n m:Int) (k:Nat),ldG most l i n=(m,i+k)->0 < i+k->k<=l.length∧(∀ c ∈ l.take k,dg c=true)∧m=(l.take k).foldl (fun n c=>10 * n+((c.toNat:Int) - 48)) n∧(0 < k->m<=most)∧(0 < k->0 < i->n≠0)∧(i=0->n=0->1 < k->l.head? ≠ some 48)∧NoD (l.drop k)
 | [],i,n,m,k,h,_=>by
  simp only [ldG,Prod.mk.injEq] at h;have hk:k=0:=by omega
  subst hk;refine ⟨by simp,?_,h.1.symm,?_,?_,?_,?_⟩
  ·intro c hc; simp at hc
  ·intro h; omega
  ·intro h; omega
  ·intro _ _ h; omega
  ·intro c hc; simp at hc
 | c :: l,i,n,m,k,h,hp=>by
  rw [ldG] at h;by_cases hd:dg c=false
  ·rw [if_pos hd] at h;simp only [Prod.mk.injEq] at h;have hk:k=0:=by omega
   subst hk;refine ⟨by simp,?_,by simpa using h.1.symm,?_,?_,?_,?_⟩
   ·intro c hc; simp at hc
   ·intro h; omega
   ·intro h; omega
   ·intro _ _ h; omega
   ·intro d hd'; simp at hd'; subst hd'; exact hd
  ·rw [if_neg hd] at h;by_cases hz:0 < i∧n=0
   ·rw [if_pos hz] at h;simp only [Prod.mk.injEq] at h;omega
   ·rw [if_neg hz] at h;by_cases hb:most < 10 * n+((c.toNat:Int) - 48)
    ·rw [if_pos hb] at h;simp only [Prod.mk.injEq] at h;omega
    ·rw [if_neg hb] at h
     have hk:∃ k',k=k'+1:=by
      cases k with
      | zero=>
       exfalso
       have:=(ldG_mono most l (i+1) (10 * n+((c.toNat:Int) - 48)))
       rw [h] at this;simp at this;omega
      | succ k'=>exact ⟨k',rfl⟩
     obtain ⟨k',rfl⟩:=hk;have e:i+(k'+1)=(i+1)+k':=by omega
     rw [e] at h;obtain ⟨h0,h1,h2,h3,h4,h5,h6⟩:=qq_ most l (i+1) _ m k' h (by omega);refine ⟨by simp; omega,?_,?_,?_,?_,?_,?_⟩
     ·intro d hd';rw [List.take_succ_cons] at hd';rcases List.mem_cons.1 hd' with e' | e'
      ·subst e'; simpa using hd
      ·exact h1 d e'
     ·rw [List.take_succ_cons,List.foldl_cons]; exact h2
     ·intro _;rcases Nat.eq_zero_or_pos k' with hk0 | hk0
      ·subst hk0; simp at h2; omega
      ·exact h3 hk0
     ·intro _ hi hn; exact hz ⟨hi,hn⟩
     ·intro hi hn hlen
      have:=h4 (by omega) (by omega)
      subst hn;intro e';simp at e';subst e';simp at this
     ·rw [List.drop_succ_cons]; exact h6
where
 ldG_mono (most:Int):∀ (l:List UInt8) (i:Nat) (n:Int),(ldG most l i n).2=0∨i<=(ldG most l i n).2
  | [],i,n=>by simp [ldG]
  | c :: l,i,n=>by
   rw [ldG];split
   ·right; exact Nat.le_refl _
   ·split
    ·left; rfl
    ·split
     ·left; rfl
     ·rcases ldG_mono most l (i+1) (10 * n+((c.toNat:Int) - 48)) with h | h
      ·left; exact h
      ·right; omega
theorem qo_ {l:List UInt8} {m:Int} (h:ld most l=(m,k)) (hk:0 < k):k<=l.length∧Num (l.take k)∧m=nv (l.take k)∧nv (l.take k)<=most∧NoD (l.drop k):=by
 have h':ldG most l 0 0=(m,0+k):=by rw [Nat.zero_add]; exact h
 obtain ⟨h0,h1,h2,h3,_,h5,h6⟩:=qq_ most l 0 0 m k h' (by omega);have hlen:(l.take k).length=k:=by simp; omega
 have h7:=h3 hk;rw [h2] at h7;refine ⟨h0,⟨fun e=>by rw [e] at hlen; simp at hlen; omega,h1,fun hl=>?_⟩,h2,h7,h6⟩;rw [hlen] at hl
 have:=h5 rfl rfl hl
 cases l with
 | nil=>simp at h0; omega
 | cons c l=>
  cases k with
  | zero=>omega
  | succ k=>simpa using this
def cutL (c:UInt8):List UInt8->List (List UInt8)
 | []=>[[]]
 | d :: l=>if d=c then [] :: cutL c l else match cutL c l with
  | []=>[[d]]
  | p :: ps=>(d :: p) :: ps
theorem vi_ (c:UInt8):∀ l,cutL c l≠[]
 | []=>by simp [cutL]
 | d :: l=>by
  unfold cutL;split
  ·simp
  ·split <;> simp
theorem yT_ (c:UInt8):∀ (a:List UInt8),(∀ d ∈ a,d≠c)->cutL c a=[a]
 | [],_=>rfl
 | d :: a,h=>by
  rw [cutL,if_neg (h d (by simp)),yT_ c a (fun e he=>h e (List.mem_cons_of_mem _ he))]
theorem yH_ (c:UInt8):∀ (a l:List UInt8),(∀ d ∈ a,d≠c)->cutL c (a++c :: l)=a :: cutL c l
 | [],l,_=>by rw [List.nil_append,cutL,if_pos rfl]
 | d :: a,l,h=>by
  rw [List.cons_append,cutL,if_neg (h d (by simp)),yH_ c a l (fun e he=>h e (List.mem_cons_of_mem _ he))]
def glue (c:UInt8):List (List UInt8)->List UInt8
 | []=>[]
 | [p]=>p
 | p :: q :: ps=>p++c :: glue c (q :: ps)
theorem wn_ (c:UInt8):∀ l,glue c (cutL c l)=l
 | []=>rfl
 | d :: l=>by
  have ih:=wn_ c l;rw [cutL];by_cases h:d=c
  ·rw [if_pos h];cases hp:cutL c l with
   | nil=>exact (vi_ c l hp).elim
   | cons p ps=>rw [hp] at ih; rw [glue,ih,h]; rfl
  ·rw [if_neg h];cases hp:cutL c l with
   | nil=>exact (vi_ c l hp).elim
   | cons p ps=>
    rw [hp] at ih;cases ps with
    | nil=>simp only [glue] at ih ⊢; rw [ih]
    | cons q ps=>simp only [glue] at ih ⊢; rw [List.cons_append,ih]
def VvT (l a b c:List UInt8):Prop:=l=a++46 :: (b++46 :: c)∧(Num a∧nv a<=9999)∧(Num b∧nv b<=9999)∧(Num c∧nv c<=9999)
theorem vb_ {a:List UInt8} (h:Num a):∀ d ∈ a,d≠46:=fun d hd e=>by
 have:=yp_.1 (h.2.1 d hd)
 rw [e] at this;simp at this
theorem xl_ {l a b c:List UInt8} (h:VvT l a b c):cutL 46 l=[a,b,c]:=by
 rw [h.1,yH_ 46 a _ (vb_ h.2.1.1),yH_ 46 b _ (vb_ h.2.2.1.1),yT_ 46 c (vb_ h.2.2.2.1)]
theorem o1_ {l a b c:List UInt8} (h:cutL 46 l=[a,b,c]) (ha:Num a∧nv a<=9999) (hb:Num b∧nv b<=9999) (hc:Num c∧nv c<=9999):VvT l a b c:=by
 refine ⟨?_,ha,hb,hc⟩
 have:=wn_ 46 l
 rw [h] at this;exact this.symm
theorem qh_ (t:List UInt8):NoD (46 :: t):=fun c hc=>by
 simp at hc;subst hc
 decide
theorem oy_:NoD []:=fun c hc=>by simp at hc
def rv1 (l:List UInt8):Option (Int × List UInt8):=if 0 < (ld 9999 l).2 then some ((ld 9999 l).1,l.drop (ld 9999 l).2) else none
def sgD:List UInt8->Option (List UInt8)
 | []=>none
 | c :: r=>if c.toNat=46 then some r else none
def rvA (l:List UInt8):Option ((Int × Int × Int) × List UInt8):=(rv1 l).map fun q=>((q.1,0,0),q.2)
def rvB (l:List UInt8):Option ((Int × Int × Int) × List UInt8):=(rvA l).bind fun p=>(sgD p.2).bind fun r=>(rv1 r).map fun q=>((p.1.1,q.1,0),q.2)
def rvC (l:List UInt8):Option ((Int × Int × Int) × List UInt8):=(rvB l).bind fun p=>(sgD p.2).bind fun r=>(rv1 r).map fun q=>((p.1.1,p.1.2.1,q.1),q.2)
def rvS (l:List UInt8) (i:Nat):Option ((Int × Int × Int) × List UInt8):=if i=0 then some ((0,0,0),l) else if i=1 then rvA l else if i=2 then rvB l else rvC l
theorem np_ (l:List UInt8):rvS l 0=some ((0,0,0),l):=rfl
theorem rS_ (l:List UInt8):rvS l 1=(rv1 l).map fun q=>((q.1,0,0),q.2):=rfl
theorem uR_ (l:List UInt8):rvS l 2=(rvS l 1).bind fun p=>(sgD p.2).bind fun r=>(rv1 r).map fun q=>((p.1.1,q.1,0),q.2):=rfl
theorem uQ_ (l:List UInt8):rvS l 3=(rvS l 2).bind fun p=>(sgD p.2).bind fun r=>(rv1 r).map fun q=>((p.1.1,p.1.2.1,q.1),q.2):=rfl
theorem v4_ {l:List UInt8} {n:Int} (h:ld 9999 l=(n,k)) (hk:0 < k):rv1 l=some (n,l.drop k):=by rw [rv1,h,if_pos hk]
theorem rT_ {l:List UInt8} {n:Int} (h:ld 9999 l=(n,k)) (hk:¬ 0 < k):rv1 l=none:=by rw [rv1,h,if_neg hk]
theorem xp_ {l:List UInt8} (hi:i<=3) (h:rvS l i=none):rvS l 3=none:=by
 have h4:i=0∨i=1∨i=2∨i=3:=by omega
 rcases h4 with rfl | rfl | rfl | rfl
 ·rw [np_] at h; cases h
 ·rw [uQ_,uR_,h]; rfl
 ·rw [uQ_,h]; rfl
 ·exact h
theorem so_ (h:s.size=0):sgD (bl s)=none:=by
 have:bl s=[]:=List.length_eq_zero_iff.1 (by rw [zF_]; exact h)
 rw [this]; rfl
theorem vB_ (h:0 < s.size):sgD (bl s)=if (s[0]'h).toNat=46 then some ((bl s).drop 1) else none:=by
 have:=yC_ s 0 h
 rw [List.drop_zero] at this;rw [this];rfl
theorem z3_ {o o':Nat} (h:W.cell? ⟨g,o,none⟩=some v) (hne:o≠o'):(W.setCell ⟨g,o',none⟩ u).cell? ⟨g,o,none⟩=some v:=by
 rw [World.cell?_setCell_other _ _ _ _ (fun e=>by cases e; exact hne rfl)];exact h
def RVI (w wr:World) (g:Nat) (s:ByteArray) (x y z:Int):Prop:=(wr.cell? ⟨w.heap.size,0,none⟩=some (.func (.func 220) #[] #[.pointer (some ⟨g,0,none⟩)])∧wr.cell? ⟨w.heap.size,1,none⟩=some (.func (.func 221) #[] #[.pointer (some ⟨g,0,none⟩)]))∧(wr.cell? ⟨w.heap.size+1,0,none⟩=some (.int .i64 0)∧wr.cell? ⟨w.heap.size+1,1,none⟩=some (.int .i64 0)∧wr.cell? ⟨w.heap.size+1,2,none⟩=some (.int .i64 0))∧(wr.frozen? ⟨w.heap.size+1,0,none⟩=false∧wr.frozen? ⟨w.heap.size+1,1,none⟩=false∧wr.frozen? ⟨w.heap.size+1,2,none⟩=false)∧(wr.cell? ⟨w.heap.size+1+1,0,none⟩=some (.int .i64 x)∧wr.cell? ⟨w.heap.size+1+1,1,none⟩=some (.int .i64 y)∧wr.cell? ⟨w.heap.size+1+1,2,none⟩=some (.int .i64 z))∧(wr.frozen? ⟨w.heap.size+1+1,0,none⟩=false∧wr.frozen? ⟨w.heap.size+1+1,1,none⟩=false∧wr.frozen? ⟨w.heap.size+1+1,2,none⟩=false)∧Left wr g s∧w.grownBy wr (some g)∧w.heap.size+1+1 < wr.heap.size
theorem RVI.grown {wr:World} (h:RVI w wr g s x y z) (hg:g < w.heap.size) (hG:wr.grownBy wr' (some g)) (hL:Left wr' g s'):RVI w wr' g s' x y z:=by
 obtain ⟨⟨a,b⟩,⟨c0,c1,c2⟩,⟨q0,q1,q2⟩,⟨v0,v1,v2⟩,⟨p0,p1,p2⟩,_,gr,hz⟩:=h;exact ⟨⟨zm_ hG a (by omega),zm_ hG b (by omega)⟩,⟨zm_ hG c0 (by omega),zm_ hG c1 (by omega),zm_ hG c2 (by omega)⟩,⟨zC_ hG q0 (by omega) (by omega),zC_ hG q1 (by omega) (by omega),zC_ hG q2 (by omega) (by omega)⟩,⟨zm_ hG v0 (by omega),zm_ hG v1 (by omega),zm_ hG v2 (by omega)⟩,⟨zC_ hG p0 (by omega) (by omega),zC_ hG p1 (by omega) (by omega),zC_ hG p2 (by omega) (by omega)⟩,hL,zX_ gr hG,Nat.lt_of_lt_of_le hz hG.size⟩
theorem RVI.set0 {wr:World} {n:Int} (h:RVI w wr g s x y z) (hg:g < w.heap.size):RVI w (wr.setCell ⟨w.heap.size+1+1,0,none⟩ (.int .i64 n)) g s n y z:=
 ⟨⟨zg_ h.1.1 (by omega),zg_ h.1.2 (by omega)⟩,⟨zg_ h.2.1.1 (by omega),zg_ h.2.1.2.1 (by omega),zg_ h.2.1.2.2 (by omega)⟩,⟨by rw [World.frozen?_setCell]; exact h.2.2.1.1,by rw [World.frozen?_setCell]; exact h.2.2.1.2.1,by rw [World.frozen?_setCell]; exact h.2.2.1.2.2⟩,⟨zI_ h.2.2.2.1.1,z3_ h.2.2.2.1.2.1 (by omega),z3_ h.2.2.2.1.2.2 (by omega)⟩,⟨by rw [World.frozen?_setCell]; exact h.2.2.2.2.1.1,by rw [World.frozen?_setCell]; exact h.2.2.2.2.1.2.1,by rw [World.frozen?_setCell]; exact h.2.2.2.2.1.2.2⟩,⟨zg_ h.2.2.2.2.2.1.1 (by omega),by rw [World.frozen?_setCell]; exact h.2.2.2.2.2.1.2⟩,zD_ h.2.2.2.2.2.2.1 (by omega),by simpa [World.setCell] using h.2.2.2.2.2.2.2⟩
theorem RVI.set1 {wr:World} {n:Int} (h:RVI w wr g s x y z) (hg:g < w.heap.size):RVI w (wr.setCell ⟨w.heap.size+1+1,1,none⟩ (.int .i64 n)) g s x n z:=
 ⟨⟨zg_ h.1.1 (by omega),zg_ h.1.2 (by omega)⟩,⟨zg_ h.2.1.1 (by omega),zg_ h.2.1.2.1 (by omega),zg_ h.2.1.2.2 (by omega)⟩,⟨by rw [World.frozen?_setCell]; exact h.2.2.1.1,by rw [World.frozen?_setCell]; exact h.2.2.1.2.1,by rw [World.frozen?_setCell]; exact h.2.2.1.2.2⟩,⟨z3_ h.2.2.2.1.1 (by omega),zI_ h.2.2.2.1.2.1,z3_ h.2.2.2.1.2.2 (by omega)⟩,⟨by rw [World.frozen?_setCell]; exact h.2.2.2.2.1.1,by rw [World.frozen?_setCell]; exact h.2.2.2.2.1.2.1,by rw [World.frozen?_setCell]; exact h.2.2.2.2.1.2.2⟩,⟨zg_ h.2.2.2.2.2.1.1 (by omega),by rw [World.frozen?_setCell]; exact h.2.2.2.2.2.1.2⟩,zD_ h.2.2.2.2.2.2.1 (by omega),by simpa [World.setCell] using h.2.2.2.2.2.2.2⟩
theorem RVI.set2 {wr:World} {n:Int} (h:RVI w wr g s x y z) (hg:g < w.heap.size):RVI w (wr.setCell ⟨w.heap.size+1+1,2,none⟩ (.int .i64 n)) g s x y n:=
 ⟨⟨zg_ h.1.1 (by omega),zg_ h.1.2 (by omega)⟩,⟨zg_ h.2.1.1 (by omega),zg_ h.2.1.2.1 (by omega),zg_ h.2.1.2.2 (by omega)⟩,⟨by rw [World.frozen?_setCell]; exact h.2.2.1.1,by rw [World.frozen?_setCell]; exact h.2.2.1.2.1,by rw [World.frozen?_setCell]; exact h.2.2.1.2.2⟩,⟨z3_ h.2.2.2.1.1 (by omega),z3_ h.2.2.2.1.2.1 (by omega),zI_ h.2.2.2.1.2.2⟩,⟨by rw [World.frozen?_setCell]; exact h.2.2.2.2.1.1,by rw [World.frozen?_setCell]; exact h.2.2.2.2.1.2.1,by rw [World.frozen?_setCell]; exact h.2.2.2.2.1.2.2⟩,⟨zg_ h.2.2.2.2.2.1.1 (by omega),by rw [World.frozen?_setCell]; exact h.2.2.2.2.2.1.2⟩,zD_ h.2.2.2.2.2.2.1 (by omega),by simpa [World.setCell] using h.2.2.2.2.2.2.2⟩
theorem qm_ {o2 o3:Nat} {t:Value} (h:Left w g s) (hne:g≠b):Left (((w.setCell ⟨b,o1,none⟩ u).setCell ⟨b,o2,none⟩ v).setCell ⟨b,o3,none⟩ t) g s:=⟨zg_ (zg_ (zg_ h.1 hne) hne) hne,by rw [World.frozen?_setCell,World.frozen?_setCell,World.frozen?_setCell]; exact h.2⟩
theorem nr_ {l r:List UInt8} (h:rvS l 1=some ((x,y,z),r)):y=0∧z=0:=by
 rw [rS_] at h;cases hq:rv1 l with
 | none=>rw [hq] at h; cases h
 | some q=>rw [hq] at h; simp at h; exact ⟨h.1.2.1.symm,h.1.2.2.symm⟩
theorem nq_ {l r:List UInt8} (h:rvS l 2=some ((x,y,z),r)):z=0:=by
 rw [uR_] at h;cases hq:rvS l 1 with
 | none=>rw [hq] at h; cases h
 | some q=>
  rw [hq] at h;simp only [Option.bind_some] at h;cases hr:sgD q.2 with
  | none=>rw [hr] at h; cases h
  | some t=>
   rw [hr] at h;simp only [Option.bind_some] at h;cases hv:rv1 t with
   | none=>rw [hv] at h; cases h
   | some v=>rw [hv] at h; simp at h; exact h.1.2.2.symm
def RvP (w:World) (g:Nat) (l:List UInt8) (e:Ending) (w':World):Prop:=(∃ x y z rest,rvS l 3=some ((x,y,z),rest)∧e=.returned (.tuple #[.agg #[.int .i64 x,.int .i64 y,.int .i64 z],.bool true])∧∃ s',Left w' g s'∧bl s'=rest∧w.grownBy w' (some g))∨(rvS l 3=none∧e=.returned (.tuple #[.agg #[.int .i64 0,.int .i64 0,.int .i64 0],.bool false])∧w.grownBy w' (some g))
theorem rc_ (g:Nat) (s:ByteArray) (w:World) (hg:g < w.heap.size) (hL0:Left w g s) (hs:s.size<=65536) :
  Calls Tryz.prog 217 #[.agg #[.func (.func 220) #[] #[.pointer (some ⟨g,0,none⟩)],.func (.func 221) #[] #[.pointer (some ⟨g,0,none⟩)],.func (.func 223) #[] #[.pointer (some ⟨g,0,none⟩)]]] w fun e w'=>RvP w g (bl s) e w':=by
 have B2:Below w.heap.size w (((w.alloc (.cells #[.func (.func 220) #[] #[.pointer (some ⟨g,0,none⟩)],.func (.func 221) #[] #[.pointer (some ⟨g,0,none⟩)],.func (.func 223) #[] #[.pointer (some ⟨g,0,none⟩)]] 195)).alloc (.cells #[.int .i64 0,.int .i64 0,.int .i64 0] 35)).alloc (.cells #[.int .i64 0,.int .i64 0,.int .i64 0] 35)):=((zb_ _ _).trans ((zb_ _ _).mono (by simp))).trans ((zb_ _ _).mono (by simp; omega));have RV0:Hid (RVI w (((w.alloc (.cells #[.func (.func 220) #[] #[.pointer (some ⟨g,0,none⟩)],.func (.func 221) #[] #[.pointer (some ⟨g,0,none⟩)],.func (.func 223) #[] #[.pointer (some ⟨g,0,none⟩)]] 195)).alloc (.cells #[.int .i64 0,.int .i64 0,.int .i64 0] 35)).alloc (.cells #[.int .i64 0,.int .i64 0,.int .i64 0] 35)) g s 0 0 0):=⟨⟨by go_simp,by go_simp⟩,⟨by go_simp,by go_simp,by go_simp⟩,⟨by go_simp,by go_simp,by go_simp⟩,⟨by go_simp,by go_simp,by go_simp⟩,⟨by go_simp,by go_simp,by go_simp⟩,zu_ hL0 B2 hg,z4_ B2,by simp⟩;clear B2 hL0;go_enter Tryz.func217,Tryz.ntmps217;go_wp2;generalize (((w.alloc (.cells #[.func (.func 220) #[] #[.pointer (some ⟨g,0,none⟩)],.func (.func 221) #[] #[.pointer (some ⟨g,0,none⟩)],.func (.func 223) #[] #[.pointer (some ⟨g,0,none⟩)]] 195)).alloc (.cells #[.int .i64 0,.int .i64 0,.int .i64 0] 35)).alloc (.cells #[.int .i64 0,.int .i64 0,.int .i64 0] 35))=W2 at *;go_loopw [8] (fun s8 wr=>∃ (i:Nat) (si:ByteArray) (x y z:Int),i<=3∧s8=.int .i64 i∧RVI w wr g si x y z∧rvS (bl s) i=some ((x,y,z),bl si)∧si.size<=65536) (fun s8 _=>3 - (intOf s8).toNat)
 case atStart=>exact ⟨0,s,0,0,0,by omega,rfl,RV0.out,rfl,hs⟩
 case round=>
  obtain ⟨i,si,x,y,z,hi,rfl,hRV,hS0,hsi⟩:=hrel;have hp4:i=0∨i=1∨i=2∨i=3:=by omega
  rcases hp4 with rfl | rfl | rfl | rfl
  ·simp only [np_,Option.some.injEq,Prod.mk.injEq] at hS0;obtain ⟨⟨rfl,rfl,rfl⟩,hz0'⟩:=hS0;have hz0:Hid (bl s=bl si):=hz0';have RV:=hm_ hRV;clear hRV hz0' RV0;obtain ⟨n,k,hnk0⟩:∃ n k,ld 9999 (bl si)=(n,k):=⟨_,_,rfl⟩;have hnk:=hm_ hnk0;clear hnk0;have f1:=RV.out.1.2;go_wp2_with fail;refine (yv_ g si 9999 n k hnk _ RV.out.2.2.2.2.2.1 (Nat.lt_of_lt_of_le hg RV.out.2.2.2.2.2.2.1.size) (by omega) (by omega) (by omega)).mono ?_;rintro e w4 ⟨rfl,hL4,hg4⟩;have RV4:Hid (RVI w w4 g (si.extract k si.size) 0 0 0):=RV.out.grown hg hg4 hL4;have hk1:Hid (k<=si.size):=vq_ hnk (by decide);clear f1 hL4 hg4;by_cases hk:0 < k
   ·have hkd:decide (0 < k)=true:=decide_eq_true hk;rw [hkd]
    have HS1:Hid (rvS (bl s) 1=some ((n,0,0),bl (si.extract k si.size))):=by
     show _=_
     rw [xm_ _ _ hk1.out];rw [rS_,hz0.out,v4_ hnk.out hk]; rfl
    obtain ⟨_,_,_,⟨v0,v1,v2⟩,⟨p0,p1,p2⟩,_,_,hz⟩:=RV4.out;have RV5:Hid (RVI w (w4.setCell ⟨w.heap.size+1+1,0,none⟩ (.int .i64 n)) g (si.extract k si.size) n 0 0):=RV4.out.set0 hg;have hsz:Hid ((si.extract k si.size).size<=65536):=by show _<=_; rw [yz_ _ _ hk1.out]; omega
    go_wp2
    go_roundw
    case rel=>exact ⟨1,_,n,0,0,by omega,by go_num,RV5.out,HS1.out,hsz.out⟩
    case measure=>simp [intOf]
   ·have hkd:decide (0 < k)=false:=decide_eq_false hk;rw [hkd];have HF:Hid (rvS (bl s) 3=none):=xp_ (i:=1) (by omega) (by rw [rS_,hz0.out,rT_ hnk.out hk]; rfl);obtain ⟨⟨f0,f1⟩,⟨r0,r1,r2⟩,⟨q0,q1,q2⟩,_,_,_,hG,hz⟩:=RV4.out;have hG':Hid (w.grownBy _ (some g)):=hG;clear f0 f1 hG;go_wp2;(try rw [Exit.noGoto_ret]);refine bodyPost_ret (v:=.tuple #[.agg #[.int .i64 0,.int .i64 0,.int .i64 0],.bool false]) (by simp [results,Tryz.results217,go_sem,r0,r1,r2,q0,q1,q2]) rfl (.inr ⟨HF.out,rfl,zD_ (zD_ (zD_ hG'.out (by omega)) (by omega)) (by omega)⟩)
  ·obtain ⟨rfl,rfl⟩:=nr_ hS0;have HS:=hm_ hS0;have RV:=hm_ hRV;clear hRV hS0 RV0;have f0:=RV.out.1.1;by_cases hs0:si.size=0
   ·go_wp2_with fail;refine (yy_ g si 46 _ RV.out.2.2.2.2.2.1.1 hs0).mono ?_;rintro e w' ⟨rfl,rfl⟩;clear f0;have HF:Hid (rvS (bl s) 3=none):=xp_ (i:=2) (by omega) (by rw [uR_,HS.out]; simp only [Option.bind_some]; rw [so_ hs0]; rfl);obtain ⟨⟨f0,f1⟩,⟨r0,r1,r2⟩,⟨q0,q1,q2⟩,_,_,_,hG,hz⟩:=RV.out;have hG':Hid (w.grownBy _ (some g)):=hG;clear f0 f1 hG;go_wp2;(try rw [Exit.noGoto_ret]);refine bodyPost_ret (v:=.tuple #[.agg #[.int .i64 0,.int .i64 0,.int .i64 0],.bool false]) (by simp [results,Tryz.results217,go_sem,r0,r1,r2,q0,q1,q2]) rfl (.inr ⟨HF.out,rfl,zD_ (zD_ (zD_ hG'.out (by omega)) (by omega)) (by omega)⟩)
   have hs1:0 < si.size:=by omega
   by_cases hc:(si[0]'hs1).toNat=46
   ·go_wp2_with fail;refine (yY_ g si 46 _ RV.out.2.2.2.2.2.1.1 RV.out.2.2.2.2.2.1.2 hs1 hc).mono ?_;rintro e W3 ⟨rfl,hW3⟩
    have RV3:Hid (RVI w W3 g (si.extract 1 si.size) x 0 0):=by
     rw [hW3];exact RV.out.grown hg (wp_ _ _ _ _) (xV_ RV.out.2.2.2.2.2.1)
    have hss:(si.extract 1 si.size).size<=65536:=by rw [yz_ si 1 hs1]; omega
    clear hW3 f0;obtain ⟨n,k,hnk0⟩:∃ n k,ld 9999 (bl (si.extract 1 si.size))=(n,k):=⟨_,_,rfl⟩;have hnk:=hm_ hnk0;clear hnk0;have f1:=RV3.out.1.2;go_wp2_with fail;refine (yv_ g (si.extract 1 si.size) 9999 n k hnk _ RV3.out.2.2.2.2.2.1 (Nat.lt_of_lt_of_le hg RV3.out.2.2.2.2.2.2.1.size) (by omega) (by omega) (by omega)).mono ?_;rintro e w4 ⟨rfl,hL4,hg4⟩;have RV4:Hid (RVI w w4 g ((si.extract 1 si.size).extract k (si.extract 1 si.size).size) x 0 0):=RV3.out.grown hg hg4 hL4;have hk1:Hid (k<=(si.extract 1 si.size).size):=vq_ hnk (by decide);clear f1 hL4 hg4;by_cases hk:0 < k
    ·have hkd:decide (0 < k)=true:=decide_eq_true hk;rw [hkd]
     have HS1:Hid (rvS (bl s) 2=some ((x,n,0),bl ((si.extract 1 si.size).extract k (si.extract 1 si.size).size))):=by
      show _=_
      rw [xm_ _ _ hk1.out];rw [uR_,HS.out]; simp only [Option.bind_some]; rw [vB_ hs1,if_pos hc,<- xm_ si 1 hs1]; simp only [Option.bind_some]; rw [v4_ hnk.out hk]; rfl
     obtain ⟨_,_,_,⟨v0,v1,v2⟩,⟨p0,p1,p2⟩,_,_,hz⟩:=RV4.out;have RV5:Hid (RVI w (w4.setCell ⟨w.heap.size+1+1,1,none⟩ (.int .i64 n)) g ((si.extract 1 si.size).extract k (si.extract 1 si.size).size) x n 0):=RV4.out.set1 hg;have hsz:Hid (((si.extract 1 si.size).extract k (si.extract 1 si.size).size).size<=65536):=by show _<=_; rw [yz_ _ _ hk1.out]; omega
     go_wp2
     go_roundw
     case rel=>exact ⟨2,_,x,n,0,by omega,by go_num,RV5.out,HS1.out,hsz.out⟩
     case measure=>simp [intOf]
    ·have hkd:decide (0 < k)=false:=decide_eq_false hk;rw [hkd];have HF:Hid (rvS (bl s) 3=none):=xp_ (i:=2) (by omega) (by rw [uR_,HS.out]; simp only [Option.bind_some]; rw [vB_ hs1,if_pos hc,<- xm_ si 1 hs1]; simp only [Option.bind_some]; rw [rT_ hnk.out hk]; rfl);obtain ⟨⟨f0,f1⟩,⟨r0,r1,r2⟩,⟨q0,q1,q2⟩,_,_,_,hG,hz⟩:=RV4.out;have hG':Hid (w.grownBy _ (some g)):=hG;clear f0 f1 hG;go_wp2;(try rw [Exit.noGoto_ret]);refine bodyPost_ret (v:=.tuple #[.agg #[.int .i64 0,.int .i64 0,.int .i64 0],.bool false]) (by simp [results,Tryz.results217,go_sem,r0,r1,r2,q0,q1,q2]) rfl (.inr ⟨HF.out,rfl,zD_ (zD_ (zD_ hG'.out (by omega)) (by omega)) (by omega)⟩)
   ·go_wp2_with fail;refine (yc_ g si 46 _ RV.out.2.2.2.2.2.1.1 hs1 hc).mono ?_;rintro e w' ⟨rfl,rfl⟩;clear f0;have HF:Hid (rvS (bl s) 3=none):=xp_ (i:=2) (by omega) (by rw [uR_,HS.out]; simp only [Option.bind_some]; rw [vB_ hs1,if_neg hc]; rfl);obtain ⟨⟨f0,f1⟩,⟨r0,r1,r2⟩,⟨q0,q1,q2⟩,_,_,_,hG,hz⟩:=RV.out;have hG':Hid (w.grownBy _ (some g)):=hG;clear f0 f1 hG;go_wp2;(try rw [Exit.noGoto_ret]);refine bodyPost_ret (v:=.tuple #[.agg #[.int .i64 0,.int .i64 0,.int .i64 0],.bool false]) (by simp [results,Tryz.results217,go_sem,r0,r1,r2,q0,q1,q2]) rfl (.inr ⟨HF.out,rfl,zD_ (zD_ (zD_ hG'.out (by omega)) (by omega)) (by omega)⟩)
  ·obtain rfl:=nq_ hS0;have HS:=hm_ hS0;have RV:=hm_ hRV;clear hRV hS0 RV0;have f0:=RV.out.1.1;by_cases hs0:si.size=0
   ·go_wp2_with fail;refine (yy_ g si 46 _ RV.out.2.2.2.2.2.1.1 hs0).mono ?_;rintro e w' ⟨rfl,rfl⟩;clear f0;have HF:Hid (rvS (bl s) 3=none):=xp_ (i:=3) (by omega) (by rw [uQ_,HS.out]; simp only [Option.bind_some]; rw [so_ hs0]; rfl);obtain ⟨⟨f0,f1⟩,⟨r0,r1,r2⟩,⟨q0,q1,q2⟩,_,_,_,hG,hz⟩:=RV.out;have hG':Hid (w.grownBy _ (some g)):=hG;clear f0 f1 hG;go_wp2;(try rw [Exit.noGoto_ret]);refine bodyPost_ret (v:=.tuple #[.agg #[.int .i64 0,.int .i64 0,.int .i64 0],.bool false]) (by simp [results,Tryz.results217,go_sem,r0,r1,r2,q0,q1,q2]) rfl (.inr ⟨HF.out,rfl,zD_ (zD_ (zD_ hG'.out (by omega)) (by omega)) (by omega)⟩)
   have hs1:0 < si.size:=by omega
   by_cases hc:(si[0]'hs1).toNat=46
   ·go_wp2_with fail;refine (yY_ g si 46 _ RV.out.2.2.2.2.2.1.1 RV.out.2.2.2.2.2.1.2 hs1 hc).mono ?_;rintro e W3 ⟨rfl,hW3⟩
    have RV3:Hid (RVI w W3 g (si.extract 1 si.size) x y 0):=by
     rw [hW3];exact RV.out.grown hg (wp_ _ _ _ _) (xV_ RV.out.2.2.2.2.2.1)
    have hss:(si.extract 1 si.size).size<=65536:=by rw [yz_ si 1 hs1]; omega
    clear hW3 f0;obtain ⟨n,k,hnk0⟩:∃ n k,ld 9999 (bl (si.extract 1 si.size))=(n,k):=⟨_,_,rfl⟩;have hnk:=hm_ hnk0;clear hnk0;have f1:=RV3.out.1.2;go_wp2_with fail;refine (yv_ g (si.extract 1 si.size) 9999 n k hnk _ RV3.out.2.2.2.2.2.1 (Nat.lt_of_lt_of_le hg RV3.out.2.2.2.2.2.2.1.size) (by omega) (by omega) (by omega)).mono ?_;rintro e w4 ⟨rfl,hL4,hg4⟩;have RV4:Hid (RVI w w4 g ((si.extract 1 si.size).extract k (si.extract 1 si.size).size) x y 0):=RV3.out.grown hg hg4 hL4;have hk1:Hid (k<=(si.extract 1 si.size).size):=vq_ hnk (by decide);clear f1 hL4 hg4;by_cases hk:0 < k
    ·have hkd:decide (0 < k)=true:=decide_eq_true hk;rw [hkd]
     have HS1:Hid (rvS (bl s) 3=some ((x,y,n),bl ((si.extract 1 si.size).extract k (si.extract 1 si.size).size))):=by
      show _=_
      rw [xm_ _ _ hk1.out];rw [uQ_,HS.out]; simp only [Option.bind_some]; rw [vB_ hs1,if_pos hc,<- xm_ si 1 hs1]; simp only [Option.bind_some]; rw [v4_ hnk.out hk]; rfl
     obtain ⟨_,_,_,⟨v0,v1,v2⟩,⟨p0,p1,p2⟩,_,_,hz⟩:=RV4.out;have RV5:Hid (RVI w (w4.setCell ⟨w.heap.size+1+1,2,none⟩ (.int .i64 n)) g ((si.extract 1 si.size).extract k (si.extract 1 si.size).size) x y n):=RV4.out.set2 hg;have hsz:Hid (((si.extract 1 si.size).extract k (si.extract 1 si.size).size).size<=65536):=by show _<=_; rw [yz_ _ _ hk1.out]; omega
     go_wp2
     go_roundw
     case rel=>exact ⟨3,_,x,y,n,by omega,by go_num,RV5.out,HS1.out,hsz.out⟩
     case measure=>simp [intOf]
    ·have hkd:decide (0 < k)=false:=decide_eq_false hk;rw [hkd];have HF:Hid (rvS (bl s) 3=none):=xp_ (i:=3) (by omega) (by rw [uQ_,HS.out]; simp only [Option.bind_some]; rw [vB_ hs1,if_pos hc,<- xm_ si 1 hs1]; simp only [Option.bind_some]; rw [rT_ hnk.out hk]; rfl);obtain ⟨⟨f0,f1⟩,⟨r0,r1,r2⟩,⟨q0,q1,q2⟩,_,_,_,hG,hz⟩:=RV4.out;have hG':Hid (w.grownBy _ (some g)):=hG;clear f0 f1 hG;go_wp2;(try rw [Exit.noGoto_ret]);refine bodyPost_ret (v:=.tuple #[.agg #[.int .i64 0,.int .i64 0,.int .i64 0],.bool false]) (by simp [results,Tryz.results217,go_sem,r0,r1,r2,q0,q1,q2]) rfl (.inr ⟨HF.out,rfl,zD_ (zD_ (zD_ hG'.out (by omega)) (by omega)) (by omega)⟩)
   ·go_wp2_with fail;refine (yc_ g si 46 _ RV.out.2.2.2.2.2.1.1 hs1 hc).mono ?_;rintro e w' ⟨rfl,rfl⟩;clear f0;have HF:Hid (rvS (bl s) 3=none):=xp_ (i:=3) (by omega) (by rw [uQ_,HS.out]; simp only [Option.bind_some]; rw [vB_ hs1,if_neg hc]; rfl);obtain ⟨⟨f0,f1⟩,⟨r0,r1,r2⟩,⟨q0,q1,q2⟩,_,_,_,hG,hz⟩:=RV.out;have hG':Hid (w.grownBy _ (some g)):=hG;clear f0 f1 hG;go_wp2;(try rw [Exit.noGoto_ret]);refine bodyPost_ret (v:=.tuple #[.agg #[.int .i64 0,.int .i64 0,.int .i64 0],.bool false]) (by simp [results,Tryz.results217,go_sem,r0,r1,r2,q0,q1,q2]) rfl (.inr ⟨HF.out,rfl,zD_ (zD_ (zD_ hG'.out (by omega)) (by omega)) (by omega)⟩)
  ·have HS:=hm_ hS0;obtain ⟨⟨f0,f1⟩,⟨r0,r1,r2⟩,⟨q0,q1,q2⟩,⟨v0,v1,v2⟩,_,hL,hG,hz⟩:=hRV;have hL':Hid (Left wr g si):=hL;have hG':Hid (w.grownBy wr (some g)):=hG;clear f0 f1 hG hL hS0 RV0;go_wp2;(try rw [Exit.noGoto_ret]);refine bodyPost_ret (v:=.tuple #[.agg #[.int .i64 x,.int .i64 y,.int .i64 z],.bool true]) (by simp [results,Tryz.results217,go_sem,r0,r1,r2,q0,q1,q2]) rfl (.inl ⟨x,y,z,_,HS.out,rfl,si,qm_ hL'.out (by omega),rfl,zD_ (zD_ (zD_ hG'.out (by omega)) (by omega)) (by omega)⟩)
end
end Go.Proofs.YtijcjhcgpmnchaaGreatDoor
