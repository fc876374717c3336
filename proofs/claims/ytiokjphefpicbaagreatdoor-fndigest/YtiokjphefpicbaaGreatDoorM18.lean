/- Nodes and their buckets, part 18 of the law FnDigest. -/
import Derived.Test.YtiokjphefpicbaaGreatDoorM17
import Derived.Laws.EntriesVeiled
namespace Go.Proofs.YtiokjphefpicbaaGreatDoor
open Go.RowKit
set_option maxRecDepth 100000
set_option maxHeartbeats 16000000
set_option linter.unusedSimpArgs false
set_option linter.unusedVariables false
variable {W w:World} {b g k o1:Nat} {most:Int} {ok:Bool} {rest:List UInt8} {s:ByteArray} {u v:Value}
theorem sV_ (s:ByteArray) (w:World) :
  Calls Tryz.prog 197 #[.string s] w fun e w'=>e=.returned (.agg #[.func (.func 219) #[] #[.pointer (some ⟨w.heap.size,0,none⟩)],.func (.func 220) #[] #[.pointer (some ⟨w.heap.size,0,none⟩)],.func (.func 222) #[] #[.pointer (some ⟨w.heap.size,0,none⟩)]])∧Below w.heap.size w w'∧Left w' w.heap.size s∧w.heap.size < w'.heap.size:=by
 go_enter Tryz.func197,Tryz.ntmps197
 go_wp2
 refine bodyPost_ret (v:=.agg #[.func (.func 219) #[] #[.pointer (some ⟨w.heap.size,0,none⟩)],.func (.func 220) #[] #[.pointer (some ⟨w.heap.size,0,none⟩)],.func (.func 222) #[] #[.pointer (some ⟨w.heap.size,0,none⟩)]]) (by simp [results,Tryz.results197,go_sem]) rfl ⟨rfl,?_,⟨by go_simp,by go_simp⟩,by simp; omega⟩
 repeat (first | exact Below.refl _ _ | refine Below.drew ?_ | refine below_drewN ?_ _ | refine Below.alloc ?_ (by first | (simp; done) | (simp; omega)) _ | refine Below.setCell ?_ (by first | (simp; done) | (simp; omega)) _)
def rdR:List UInt8→(Int × Int) × Bool × List UInt8
 | []=>((0,0),false,[])
 | c :: r=>if 97≤c.toNat∧c.toNat≤99 then (((c.toNat:Int) - 97,(ld 9999 r).1),(decide (0 < (ld 9999 r).2) && dotB ((c.toNat:Int) - 97) (ld 9999 r).1),r.drop (ld 9999 r).2) else ((0,0),false,c :: r)
theorem yI_ {o2:Nat} (h:Left w g s) (hne:g≠b):Left ((w.setCell ⟨b,o1,none⟩ u).setCell ⟨b,o2,none⟩ v) g s:=⟨zf_ (zf_ h.1 hne) hne,by rw [World.frozen?_setCell,World.frozen?_setCell]; exact h.2⟩
theorem zD_ {r:Option Nat} {o:Nat} (h:w.grownBy W r) (hb:w.heap.size≤b):w.grownBy (W.setCell ⟨b,o,none⟩ u) r:=
 ⟨by simpa [World.setCell] using h.os,by simpa [World.setCell] using h.tape,by simpa [World.setCell] using h.output,by simpa [World.setCell] using h.size,fun k hk hne=>(Below.heap_setCell W ⟨b,o,none⟩ u k (fun e=>by simp at e; omega)).trans (h.block k hk hne)⟩
theorem vf_ {n:Int} (h:Hid (ld most (bl s)=(n,k))) (h0:0≤most):k≤s.size:=by
 have:=(sm_ h0 (bl s)).2.2
 rw [h.out,zF_] at this
 exact this
theorem rU_ {p n n':Int} {c:Nat} (hR:Hid (rdR (bl s)=((p,n),ok,rest))) (hs:0 < s.size) (hc3:c < 3) (hc:(s[0]'hs).toNat=97+c) (hnk:ld 9999 (bl (s.extract 1 s.size))=(n',k)):Hid (p=(c:Int)∧n=n'∧ok=(decide (0 < k) && dotB (c:Int) n')∧rest=(bl (s.extract 1 s.size)).drop k):=by
 have h:=hR.out
 have e0:bl s=s[0] :: (bl s).drop 1:=by have:=yy_ s 0 hs; rwa [List.drop_zero] at this
 rw [xc_ s 1 hs] at hnk ⊢
 rw [e0,rdR,if_pos (by omega),hnk] at h
 simp only [Prod.mk.injEq] at h
 obtain ⟨⟨h1,h2⟩,h3,h4⟩:=h
 have e1:(((s[0]'hs).toNat:Int)) - 97=(c:Int):=by omega
 rw [e1] at h1 h3
 exact ⟨h1.symm,h2.symm,h3.symm,h4.symm⟩
theorem ol_ {p n:Int} (hR:Hid (rdR (bl s)=((p,n),ok,rest))) (hN:∀ h:0 < s.size,∀ j,j < 3→¬ (s[0]'h).toNat=97+j):Hid (p=0∧n=0∧ok=false∧rest=bl s):=by
 have h:=hR.out
 by_cases hs:0 < s.size
 focus
  have e0:bl s=s[0] :: (bl s).drop 1:=by have:=yy_ s 0 hs; rwa [List.drop_zero] at this
  have h0:=hN hs 0 (by omega)
  have h1:=hN hs 1 (by omega)
  have h2:=hN hs 2 (by omega)
  rw [e0,rdR,if_neg (by omega)] at h
 rotate_left
 focus
  have e0:bl s=[]:=List.length_eq_zero_iff.1 (by rw [zF_]; omega)
  rw [e0,rdR] at h
 rotate_left
 all_goals
  simp only [Prod.mk.injEq] at h
  obtain ⟨⟨a,b⟩,c,d⟩:=h
  exact ⟨a.symm,b.symm,c.symm,by rw [e0]; exact d.symm⟩
theorem tp_ (g:Nat) (s:ByteArray) (w:World) (hg:g < w.heap.size) (hL0:Left w g s) (hs:s.size≤65536) (p n:Int) (ok:Bool) (rest:List UInt8) (hR:Hid (rdR (bl s)=((p,n),ok,rest))) :
  Calls Tryz.prog 245 #[.agg #[.func (.func 219) #[] #[.pointer (some ⟨g,0,none⟩)],.func (.func 220) #[] #[.pointer (some ⟨g,0,none⟩)],.func (.func 222) #[] #[.pointer (some ⟨g,0,none⟩)]]] w fun e w'=>e=.returned (.tuple #[.agg #[.int .i64 p,.int .i64 n],.bool ok])∧∃ s',Left w' g s'∧bl s'=rest∧w.grownBy w' (some g):=by
 have HL:Hid (Left w g s):=hL0
 clear hL0
 have F0:Hid (∀ k,(((w.alloc (.cells #[.func (.func 219) #[] #[.pointer (some ⟨g,0,none⟩)],.func (.func 220) #[] #[.pointer (some ⟨g,0,none⟩)],.func (.func 222) #[] #[.pointer (some ⟨g,0,none⟩)]] 194)).alloc (.cells #[.int .i64 0,.int .i64 0] 41)).iter ⟨#[97,98,99]⟩ k).cell? ⟨w.heap.size,0,none⟩=some (.func (.func 219) #[] #[.pointer (some ⟨g,0,none⟩)])):=fun k=>by show (((w.alloc (.cells #[.func (.func 219) #[] #[.pointer (some ⟨g,0,none⟩)],.func (.func 220) #[] #[.pointer (some ⟨g,0,none⟩)],.func (.func 222) #[] #[.pointer (some ⟨g,0,none⟩)]] 194)).alloc (.cells #[.int .i64 0,.int .i64 0] 41)).alloc _).cell? _=_; go_simp
 have F1:Hid (∀ k,(((w.alloc (.cells #[.func (.func 219) #[] #[.pointer (some ⟨g,0,none⟩)],.func (.func 220) #[] #[.pointer (some ⟨g,0,none⟩)],.func (.func 222) #[] #[.pointer (some ⟨g,0,none⟩)]] 194)).alloc (.cells #[.int .i64 0,.int .i64 0] 41)).iter ⟨#[97,98,99]⟩ k).cell? ⟨w.heap.size,1,none⟩=some (.func (.func 220) #[] #[.pointer (some ⟨g,0,none⟩)])):=fun k=>by show (((w.alloc (.cells #[.func (.func 219) #[] #[.pointer (some ⟨g,0,none⟩)],.func (.func 220) #[] #[.pointer (some ⟨g,0,none⟩)],.func (.func 222) #[] #[.pointer (some ⟨g,0,none⟩)]] 194)).alloc (.cells #[.int .i64 0,.int .i64 0] 41)).alloc _).cell? _=_; go_simp
 have F2:Hid (∀ k,(((w.alloc (.cells #[.func (.func 219) #[] #[.pointer (some ⟨g,0,none⟩)],.func (.func 220) #[] #[.pointer (some ⟨g,0,none⟩)],.func (.func 222) #[] #[.pointer (some ⟨g,0,none⟩)]] 194)).alloc (.cells #[.int .i64 0,.int .i64 0] 41)).iter ⟨#[97,98,99]⟩ k).cell? ⟨w.heap.size+1,0,none⟩=some (.int .i64 0)∧(((w.alloc (.cells #[.func (.func 219) #[] #[.pointer (some ⟨g,0,none⟩)],.func (.func 220) #[] #[.pointer (some ⟨g,0,none⟩)],.func (.func 222) #[] #[.pointer (some ⟨g,0,none⟩)]] 194)).alloc (.cells #[.int .i64 0,.int .i64 0] 41)).iter ⟨#[97,98,99]⟩ k).cell? ⟨w.heap.size+1,1,none⟩=some (.int .i64 0)∧(((w.alloc (.cells #[.func (.func 219) #[] #[.pointer (some ⟨g,0,none⟩)],.func (.func 220) #[] #[.pointer (some ⟨g,0,none⟩)],.func (.func 222) #[] #[.pointer (some ⟨g,0,none⟩)]] 194)).alloc (.cells #[.int .i64 0,.int .i64 0] 41)).iter ⟨#[97,98,99]⟩ k).frozen? ⟨w.heap.size+1,0,none⟩=false∧(((w.alloc (.cells #[.func (.func 219) #[] #[.pointer (some ⟨g,0,none⟩)],.func (.func 220) #[] #[.pointer (some ⟨g,0,none⟩)],.func (.func 222) #[] #[.pointer (some ⟨g,0,none⟩)]] 194)).alloc (.cells #[.int .i64 0,.int .i64 0] 41)).iter ⟨#[97,98,99]⟩ k).frozen? ⟨w.heap.size+1,1,none⟩=false):=fun k=>by
  refine ⟨?_,?_,?_,?_⟩
  ·show (((w.alloc (.cells #[.func (.func 219) #[] #[.pointer (some ⟨g,0,none⟩)],.func (.func 220) #[] #[.pointer (some ⟨g,0,none⟩)],.func (.func 222) #[] #[.pointer (some ⟨g,0,none⟩)]] 194)).alloc (.cells #[.int .i64 0,.int .i64 0] 41)).alloc _).cell? _=_; go_simp
  ·show (((w.alloc (.cells #[.func (.func 219) #[] #[.pointer (some ⟨g,0,none⟩)],.func (.func 220) #[] #[.pointer (some ⟨g,0,none⟩)],.func (.func 222) #[] #[.pointer (some ⟨g,0,none⟩)]] 194)).alloc (.cells #[.int .i64 0,.int .i64 0] 41)).alloc _).cell? _=_; go_simp
  ·show (((w.alloc (.cells #[.func (.func 219) #[] #[.pointer (some ⟨g,0,none⟩)],.func (.func 220) #[] #[.pointer (some ⟨g,0,none⟩)],.func (.func 222) #[] #[.pointer (some ⟨g,0,none⟩)]] 194)).alloc (.cells #[.int .i64 0,.int .i64 0] 41)).alloc _).frozen? _=_; go_simp
  ·show (((w.alloc (.cells #[.func (.func 219) #[] #[.pointer (some ⟨g,0,none⟩)],.func (.func 220) #[] #[.pointer (some ⟨g,0,none⟩)],.func (.func 222) #[] #[.pointer (some ⟨g,0,none⟩)]] 194)).alloc (.cells #[.int .i64 0,.int .i64 0] 41)).alloc _).frozen? _=_; go_simp
 have B2:Hid (∀ k,Below w.heap.size w (((w.alloc (.cells #[.func (.func 219) #[] #[.pointer (some ⟨g,0,none⟩)],.func (.func 220) #[] #[.pointer (some ⟨g,0,none⟩)],.func (.func 222) #[] #[.pointer (some ⟨g,0,none⟩)]] 194)).alloc (.cells #[.int .i64 0,.int .i64 0] 41)).iter ⟨#[97,98,99]⟩ k)):=fun k=>((zb_ _ _).trans ((zb_ _ _).mono (by simp))).trans ((xO_ _ _ _).mono (by simp; omega))
 have HZ:Hid (((w.alloc (.cells #[.func (.func 219) #[] #[.pointer (some ⟨g,0,none⟩)],.func (.func 220) #[] #[.pointer (some ⟨g,0,none⟩)],.func (.func 222) #[] #[.pointer (some ⟨g,0,none⟩)]] 194)).alloc (.cells #[.int .i64 0,.int .i64 0] 41)).heap.size=w.heap.size+1+1):=by show _=_; simp
 go_enter Tryz.func245,Tryz.ntmps245
 go_wp2
 generalize hW2:((w.alloc (.cells #[.func (.func 219) #[] #[.pointer (some ⟨g,0,none⟩)],.func (.func 220) #[] #[.pointer (some ⟨g,0,none⟩)],.func (.func 222) #[] #[.pointer (some ⟨g,0,none⟩)]] 194)).alloc (.cells #[.int .i64 0,.int .i64 0] 41))=W2 at *
 clear hW2
 go_loopw [4] (fun s4 wr=>∃ pos:Nat,pos≤3∧wr=W2.iter ⟨#[97,98,99]⟩ pos∧(∀ h:0 < s.size,∀ j,j < pos→¬ (s[0]'h).toNat=97+j)) (fun _ wr=>3 - wr.iterPos W2.heap.size)
 case atStart=>exact ⟨0,by omega,rfl,fun h j hj=>by omega⟩
 case round=>
  obtain ⟨pos,hp,rfl,hN0⟩:=hrel
  have HN:=hm_ hN0
  clear hN0
  have hp4:pos=0∨pos=1∨pos=2∨pos=3:=by omega
  rcases hp4 with rfl | rfl | rfl | rfl
  ·have hnx:∀ ty,(Instr.next (.pointer (some ⟨w.heap.size+1+1,0,none⟩)) true ty).run Tryz.prog (W2.iter ⟨#[97,98,99]⟩ 0)=.ok (.tuple #[.bool true,.int .i64 0,.int .i32 97]) (W2.iter ⟨#[97,98,99]⟩ 1):=fun ty=>by rw [← HZ.out]; exact run_next_ascii W2 ⟨#[97,98,99]⟩ 0 ty (by decide) (by decide)
   have f0:=F0.out 1
   by_cases hs0:s.size=0
   ·have HN':Hid (∀ h:0 < s.size,∀ j,j < 1→¬ (s[0]'h).toNat=97+j):=fun h=>by omega
    go_wp2_with fail
    refine (yu_ g s 97 _ (zt_ HL.out (B2.out 1) hg).1 hs0).mono ?_
    rintro e w' ⟨rfl,rfl⟩
    go_wp2
    go_roundw
    case rel=>exact ⟨1,by omega,rfl,HN'.out⟩
    case measure=>simp
   have hs1:0 < s.size:=by omega
   by_cases hc:(s[0]'hs1).toNat=97
   ·go_wp2_with fail
    refine (yS_ g s 97 _ (zt_ HL.out (B2.out 1) hg).1 (zt_ HL.out (B2.out 1) hg).2 hs1 hc).mono ?_
    rintro e W3 ⟨rfl,hW3⟩
    obtain ⟨r0',r1',q0',q1'⟩:=F2.out 1
    have f1:W3.cell? ⟨w.heap.size,1,none⟩=some (.func (.func 220) #[] #[.pointer (some ⟨g,0,none⟩)]):=by rw [hW3]; exact zf_ (F1.out 1) (by omega)
    have r0:W3.cell? ⟨w.heap.size+1,0,none⟩=some (.int .i64 0):=by rw [hW3]; exact zf_ r0' (by omega)
    have r1:W3.cell? ⟨w.heap.size+1,1,none⟩=some (.int .i64 0):=by rw [hW3]; exact zf_ r1' (by omega)
    have q0:W3.frozen? ⟨w.heap.size+1,0,none⟩=false:=by rw [hW3,World.frozen?_setCell]; exact q0'
    have q1:W3.frozen? ⟨w.heap.size+1,1,none⟩=false:=by rw [hW3,World.frozen?_setCell]; exact q1'
    have L3:Hid (Left W3 g (s.extract 1 s.size)):=by rw [hW3]; exact xJ_ (zt_ HL.out (B2.out 1) hg)
    have G3:Hid (w.grownBy W3 (some g)):=by rw [hW3]; exact zW_ (z3_ (B2.out 1)) (wa_ _ _ _ _)
    have hz3:w.heap.size+1 < W3.heap.size:=by rw [hW3]; simp only [World.setCell,Array.size_modify]; show _ < (W2.alloc _).heap.size; rw [World.size_alloc,HZ.out]; omega
    obtain ⟨n',k,hnk0⟩:∃ n' k,ld 9999 (bl (s.extract 1 s.size))=(n',k):=⟨_,_,rfl⟩
    have hnk:=hm_ hnk0
    have HRR:Hid (p=0∧n=n'∧ok=(decide (0 < k) && dotB 0 n')∧rest=(bl (s.extract 1 s.size)).drop k):=rU_ hR hs1 (c:=0) (by omega) hc hnk0
    clear hnk0 hW3 r0' r1' q0' q1' f0 hc
    go_wp2_with fail
    refine (yr_ g (s.extract 1 s.size) 9999 n' k hnk _ L3.out (by omega) (by omega) (by omega) (by rw [yv_ s 1 hs1]; omega)).mono ?_
    rintro e w4 ⟨rfl,hL4,hg4⟩
    replace r0:=hg4.cell r0 (fun e=>by simp at e; omega)
    replace r1:=hg4.cell r1 (fun e=>by simp at e; omega)
    replace q0:w4.frozen? ⟨w.heap.size+1,0,none⟩=false:=by rw [World.frozen?_of_block (w:=W3) (hg4.block (w.heap.size+1) hz3 (fun e=>by simp at e; omega))]; exact q0
    replace q1:w4.frozen? ⟨w.heap.size+1,1,none⟩=false:=by rw [World.frozen?_of_block (w:=W3) (hg4.block (w.heap.size+1) hz3 (fun e=>by simp at e; omega))]; exact q1
    have hz4:w.heap.size+1 < w4.heap.size:=Nat.lt_of_lt_of_le hz3 hg4.size
    have L4:Hid (Left w4 g _):=hL4
    have G4:Hid (w.grownBy w4 (some g)):=zW_ G3.out hg4
    clear hL4 hg4 f1 L3 G3 hz3
    by_cases hk:0 < k
    ·have hkd:decide (0 < k)=true:=decide_eq_true hk
     rw [hkd]
     go_wp2
     have HW:Below w4.heap.size w4 (w4.alloc (.cells #[.int .i64 0,.int .i64 n'] 41)).drew:=(zb_ _ _).drew
     refine wp_region_held_drew (S:=(fun w'=>w'.cell? ⟨w4.heap.size,0,none⟩=some (.int .i64 0)∧w'.cell? ⟨w4.heap.size,1,none⟩=some (.int .i64 n')∧w4.heap.size < w'.heap.size)) (by kernel_rfl) ?_ (fun hH=>?_)
     ·(try dsimp only)
      exact ⟨by go_simp,by go_simp,by simp⟩
     refine wTk 0 ?_
     refine wTk 1 ?_
     refine wTk 2 ?_
     refine wTk 3 ?_
     refine wRd 4 (fun K hK=>?_)
     go_simp
     (go_at_call 155; refine (x6_ 0 n' _).mono ?_; rintro e w5 ⟨rfl,hb⟩; replace HW:=(ze_ HW hb).out)
     (try simp only [])
     refine hK.out _ _ ?_ (fun hH'=>?_)
     ·(try dsimp only)
      exact ⟨za_ hb hH.1 hH.2.2,za_ hb hH.2.1 hH.2.2,Nat.lt_of_lt_of_le hH.2.2 hb.size⟩
     clear hK K
     clear hH
     have hH:=hH'
     clear hH'
     clear hb
     refine wLy ?_
     refine wTk 5 ?_
     have T0:=za_ HW r0 hz4
     have T1:=za_ HW r1 hz4
     have Z0:=zd_ HW q0 hz4
     have Z1:=zd_ HW q1 hz4
     refine wRd 6 (fun K hK=>?_)
     go_simp
     (try simp only [])
     refine wHk hK (⟨zf_ (zf_ hH.1 (by omega)) (by omega),zf_ (zf_ hH.2.1 (by omega)) (by omega),by simpa [World.setCell] using hH.2.2⟩) ?_
     clear hK K hH
     intro hH
     refine wTk 7 ?_
     refine wDn ?_
     have HWW:Hid (Below w4.heap.size w4 _):=HW
     clear hH r0 r1 q0 q1 HW
     go_wp2
     (try rw [Exit.noGoto_ret])
     refine bodyPost_ret (v:=.tuple #[.agg #[.int .i64 0,.int .i64 n'],.bool (dotB 0 n')]) (by simp [results,Tryz.results245,go_sem,T0,T1,Z0,Z1]) rfl ⟨by rw [HRR.out.1,HRR.out.2.1,HRR.out.2.2.1,hkd]; simp,_,yI_ (zt_ L4.out HWW.out (Nat.lt_trans hg (by omega))) (by omega),(xc_ _ _ (vf_ hnk (by decide))).trans HRR.out.2.2.2.symm,zD_ (zD_ (zW_ G4.out (z3_ HWW.out)) (by omega)) (by omega)⟩
    ·have hkd:decide (0 < k)=false:=decide_eq_false hk
     rw [hkd]
     go_wp2
     have HW:Below w4.heap.size w4 (w4.alloc (.cells #[.int .i64 0,.int .i64 n'] 41)).drew:=(zb_ _ _).drew
     refine wp_region_held_drew (S:=(fun w'=>w'.cell? ⟨w4.heap.size,0,none⟩=some (.int .i64 0)∧w'.cell? ⟨w4.heap.size,1,none⟩=some (.int .i64 n')∧w4.heap.size < w'.heap.size)) (by kernel_rfl) ?_ (fun hH=>?_)
     ·(try dsimp only)
      exact ⟨by go_simp,by go_simp,by simp⟩
     refine wTk 0 ?_
     refine wTk 1 ?_
     refine wTk 2 ?_
     refine wTn 3 ?_
     refine wTn 4 ?_
     refine wTk 5 ?_
     generalize (w4.alloc (.cells #[.int .i64 0,.int .i64 n'] 41)).drew=w5 at *
     have T0:=za_ HW r0 hz4
     have T1:=za_ HW r1 hz4
     have Z0:=zd_ HW q0 hz4
     have Z1:=zd_ HW q1 hz4
     refine wRd 6 (fun K hK=>?_)
     go_simp
     (try simp only [])
     refine wHk hK (⟨zf_ (zf_ hH.1 (by omega)) (by omega),zf_ (zf_ hH.2.1 (by omega)) (by omega),by simpa [World.setCell] using hH.2.2⟩) ?_
     clear hK K hH
     intro hH
     refine wTk 7 ?_
     refine wDn ?_
     have HWW:Hid (Below w4.heap.size w4 _):=HW
     clear hH r0 r1 q0 q1 HW
     go_wp2
     (try rw [Exit.noGoto_ret])
     refine bodyPost_ret (v:=.tuple #[.agg #[.int .i64 0,.int .i64 n'],.bool false]) (by simp [results,Tryz.results245,go_sem,T0,T1,Z0,Z1]) rfl ⟨by rw [HRR.out.1,HRR.out.2.1,HRR.out.2.2.1,hkd]; simp,_,yI_ (zt_ L4.out HWW.out (Nat.lt_trans hg (by omega))) (by omega),(xc_ _ _ (vf_ hnk (by decide))).trans HRR.out.2.2.2.symm,zD_ (zD_ (zW_ G4.out (z3_ HWW.out)) (by omega)) (by omega)⟩
   ·have HN':Hid (∀ h:0 < s.size,∀ j,j < 1→¬ (s[0]'h).toNat=97+j):=fun h j hj=>by
     by_cases e:j=0
     ·subst e; exact hc
     ·exact HN.out h j (by omega)
    go_wp2_with fail
    refine (yb_ g s 97 _ (zt_ HL.out (B2.out 1) hg).1 hs1 hc).mono ?_
    rintro e w' ⟨rfl,rfl⟩
    go_wp2
    go_roundw
    case rel=>exact ⟨1,by omega,rfl,HN'.out⟩
    case measure=>simp
  ·have hnx:∀ ty,(Instr.next (.pointer (some ⟨w.heap.size+1+1,0,none⟩)) true ty).run Tryz.prog (W2.iter ⟨#[97,98,99]⟩ 1)=.ok (.tuple #[.bool true,.int .i64 1,.int .i32 98]) (W2.iter ⟨#[97,98,99]⟩ 2):=fun ty=>by rw [← HZ.out]; exact run_next_ascii W2 ⟨#[97,98,99]⟩ 1 ty (by decide) (by decide)
   have f0:=F0.out 2
   by_cases hs0:s.size=0
   ·have HN':Hid (∀ h:0 < s.size,∀ j,j < 2→¬ (s[0]'h).toNat=97+j):=fun h=>by omega
    go_wp2_with fail
    refine (yu_ g s 98 _ (zt_ HL.out (B2.out 2) hg).1 hs0).mono ?_
    rintro e w' ⟨rfl,rfl⟩
    go_wp2
    go_roundw
    case rel=>exact ⟨2,by omega,rfl,HN'.out⟩
    case measure=>simp
   have hs1:0 < s.size:=by omega
   by_cases hc:(s[0]'hs1).toNat=98
   ·go_wp2_with fail
    refine (yS_ g s 98 _ (zt_ HL.out (B2.out 2) hg).1 (zt_ HL.out (B2.out 2) hg).2 hs1 hc).mono ?_
    rintro e W3 ⟨rfl,hW3⟩
    obtain ⟨r0',r1',q0',q1'⟩:=F2.out 2
    have f1:W3.cell? ⟨w.heap.size,1,none⟩=some (.func (.func 220) #[] #[.pointer (some ⟨g,0,none⟩)]):=by rw [hW3]; exact zf_ (F1.out 2) (by omega)
    have r0:W3.cell? ⟨w.heap.size+1,0,none⟩=some (.int .i64 0):=by rw [hW3]; exact zf_ r0' (by omega)
    have r1:W3.cell? ⟨w.heap.size+1,1,none⟩=some (.int .i64 0):=by rw [hW3]; exact zf_ r1' (by omega)
    have q0:W3.frozen? ⟨w.heap.size+1,0,none⟩=false:=by rw [hW3,World.frozen?_setCell]; exact q0'
    have q1:W3.frozen? ⟨w.heap.size+1,1,none⟩=false:=by rw [hW3,World.frozen?_setCell]; exact q1'
    have L3:Hid (Left W3 g (s.extract 1 s.size)):=by rw [hW3]; exact xJ_ (zt_ HL.out (B2.out 2) hg)
    have G3:Hid (w.grownBy W3 (some g)):=by rw [hW3]; exact zW_ (z3_ (B2.out 2)) (wa_ _ _ _ _)
    have hz3:w.heap.size+1 < W3.heap.size:=by rw [hW3]; simp only [World.setCell,Array.size_modify]; show _ < (W2.alloc _).heap.size; rw [World.size_alloc,HZ.out]; omega
    obtain ⟨n',k,hnk0⟩:∃ n' k,ld 9999 (bl (s.extract 1 s.size))=(n',k):=⟨_,_,rfl⟩
    have hnk:=hm_ hnk0
    have HRR:Hid (p=1∧n=n'∧ok=(decide (0 < k) && dotB 1 n')∧rest=(bl (s.extract 1 s.size)).drop k):=rU_ hR hs1 (c:=1) (by omega) hc hnk0
    clear hnk0 hW3 r0' r1' q0' q1' f0 hc
    go_wp2_with fail
    refine (yr_ g (s.extract 1 s.size) 9999 n' k hnk _ L3.out (by omega) (by omega) (by omega) (by rw [yv_ s 1 hs1]; omega)).mono ?_
    rintro e w4 ⟨rfl,hL4,hg4⟩
    replace r0:=hg4.cell r0 (fun e=>by simp at e; omega)
    replace r1:=hg4.cell r1 (fun e=>by simp at e; omega)
    replace q0:w4.frozen? ⟨w.heap.size+1,0,none⟩=false:=by rw [World.frozen?_of_block (w:=W3) (hg4.block (w.heap.size+1) hz3 (fun e=>by simp at e; omega))]; exact q0
    replace q1:w4.frozen? ⟨w.heap.size+1,1,none⟩=false:=by rw [World.frozen?_of_block (w:=W3) (hg4.block (w.heap.size+1) hz3 (fun e=>by simp at e; omega))]; exact q1
    have hz4:w.heap.size+1 < w4.heap.size:=Nat.lt_of_lt_of_le hz3 hg4.size
    have L4:Hid (Left w4 g _):=hL4
    have G4:Hid (w.grownBy w4 (some g)):=zW_ G3.out hg4
    clear hL4 hg4 f1 L3 G3 hz3
    by_cases hk:0 < k
    ·have hkd:decide (0 < k)=true:=decide_eq_true hk
     rw [hkd]
     go_wp2
     have HW:Below w4.heap.size w4 (w4.alloc (.cells #[.int .i64 1,.int .i64 n'] 41)).drew:=(zb_ _ _).drew
     refine wp_region_held_drew (S:=(fun w'=>w'.cell? ⟨w4.heap.size,0,none⟩=some (.int .i64 1)∧w'.cell? ⟨w4.heap.size,1,none⟩=some (.int .i64 n')∧w4.heap.size < w'.heap.size)) (by kernel_rfl) ?_ (fun hH=>?_)
     ·(try dsimp only)
      exact ⟨by go_simp,by go_simp,by simp⟩
     refine wTk 0 ?_
     refine wTk 1 ?_
     refine wTk 2 ?_
     refine wTk 3 ?_
     refine wRd 4 (fun K hK=>?_)
     go_simp
     (go_at_call 155; refine (x6_ 1 n' _).mono ?_; rintro e w5 ⟨rfl,hb⟩; replace HW:=(ze_ HW hb).out)
     (try simp only [])
     refine hK.out _ _ ?_ (fun hH'=>?_)
     ·(try dsimp only)
      exact ⟨za_ hb hH.1 hH.2.2,za_ hb hH.2.1 hH.2.2,Nat.lt_of_lt_of_le hH.2.2 hb.size⟩
     clear hK K
     clear hH
     have hH:=hH'
     clear hH'
     clear hb
     refine wLy ?_
     refine wTk 5 ?_
     have T0:=za_ HW r0 hz4
     have T1:=za_ HW r1 hz4
     have Z0:=zd_ HW q0 hz4
     have Z1:=zd_ HW q1 hz4
     refine wRd 6 (fun K hK=>?_)
     go_simp
     (try simp only [])
     refine wHk hK (⟨zf_ (zf_ hH.1 (by omega)) (by omega),zf_ (zf_ hH.2.1 (by omega)) (by omega),by simpa [World.setCell] using hH.2.2⟩) ?_
     clear hK K hH
     intro hH
     refine wTk 7 ?_
     refine wDn ?_
     have HWW:Hid (Below w4.heap.size w4 _):=HW
     clear hH r0 r1 q0 q1 HW
     go_wp2
     (try rw [Exit.noGoto_ret])
     refine bodyPost_ret (v:=.tuple #[.agg #[.int .i64 1,.int .i64 n'],.bool (dotB 1 n')]) (by simp [results,Tryz.results245,go_sem,T0,T1,Z0,Z1]) rfl ⟨by rw [HRR.out.1,HRR.out.2.1,HRR.out.2.2.1,hkd]; simp,_,yI_ (zt_ L4.out HWW.out (Nat.lt_trans hg (by omega))) (by omega),(xc_ _ _ (vf_ hnk (by decide))).trans HRR.out.2.2.2.symm,zD_ (zD_ (zW_ G4.out (z3_ HWW.out)) (by omega)) (by omega)⟩
    ·have hkd:decide (0 < k)=false:=decide_eq_false hk
     rw [hkd]
     go_wp2
     have HW:Below w4.heap.size w4 (w4.alloc (.cells #[.int .i64 1,.int .i64 n'] 41)).drew:=(zb_ _ _).drew
     refine wp_region_held_drew (S:=(fun w'=>w'.cell? ⟨w4.heap.size,0,none⟩=some (.int .i64 1)∧w'.cell? ⟨w4.heap.size,1,none⟩=some (.int .i64 n')∧w4.heap.size < w'.heap.size)) (by kernel_rfl) ?_ (fun hH=>?_)
     ·(try dsimp only)
      exact ⟨by go_simp,by go_simp,by simp⟩
     refine wTk 0 ?_
     refine wTk 1 ?_
     refine wTk 2 ?_
     refine wTn 3 ?_
     refine wTn 4 ?_
     refine wTk 5 ?_
     generalize (w4.alloc (.cells #[.int .i64 1,.int .i64 n'] 41)).drew=w5 at *
     have T0:=za_ HW r0 hz4
     have T1:=za_ HW r1 hz4
     have Z0:=zd_ HW q0 hz4
     have Z1:=zd_ HW q1 hz4
     refine wRd 6 (fun K hK=>?_)
     go_simp
     (try simp only [])
     refine wHk hK (⟨zf_ (zf_ hH.1 (by omega)) (by omega),zf_ (zf_ hH.2.1 (by omega)) (by omega),by simpa [World.setCell] using hH.2.2⟩) ?_
     clear hK K hH
     intro hH
     refine wTk 7 ?_
     refine wDn ?_
     have HWW:Hid (Below w4.heap.size w4 _):=HW
     clear hH r0 r1 q0 q1 HW
     go_wp2
     (try rw [Exit.noGoto_ret])
     refine bodyPost_ret (v:=.tuple #[.agg #[.int .i64 1,.int .i64 n'],.bool false]) (by simp [results,Tryz.results245,go_sem,T0,T1,Z0,Z1]) rfl ⟨by rw [HRR.out.1,HRR.out.2.1,HRR.out.2.2.1,hkd]; simp,_,yI_ (zt_ L4.out HWW.out (Nat.lt_trans hg (by omega))) (by omega),(xc_ _ _ (vf_ hnk (by decide))).trans HRR.out.2.2.2.symm,zD_ (zD_ (zW_ G4.out (z3_ HWW.out)) (by omega)) (by omega)⟩
   ·have HN':Hid (∀ h:0 < s.size,∀ j,j < 2→¬ (s[0]'h).toNat=97+j):=fun h j hj=>by
     by_cases e:j=1
     ·subst e; exact hc
     ·exact HN.out h j (by omega)
    go_wp2_with fail
    refine (yb_ g s 98 _ (zt_ HL.out (B2.out 2) hg).1 hs1 hc).mono ?_
    rintro e w' ⟨rfl,rfl⟩
    go_wp2
    go_roundw
    case rel=>exact ⟨2,by omega,rfl,HN'.out⟩
    case measure=>simp
  ·have hnx:∀ ty,(Instr.next (.pointer (some ⟨w.heap.size+1+1,0,none⟩)) true ty).run Tryz.prog (W2.iter ⟨#[97,98,99]⟩ 2)=.ok (.tuple #[.bool true,.int .i64 2,.int .i32 99]) (W2.iter ⟨#[97,98,99]⟩ 3):=fun ty=>by rw [← HZ.out]; exact run_next_ascii W2 ⟨#[97,98,99]⟩ 2 ty (by decide) (by decide)
   have f0:=F0.out 3
   by_cases hs0:s.size=0
   ·have HN':Hid (∀ h:0 < s.size,∀ j,j < 3→¬ (s[0]'h).toNat=97+j):=fun h=>by omega
    go_wp2_with fail
    refine (yu_ g s 99 _ (zt_ HL.out (B2.out 3) hg).1 hs0).mono ?_
    rintro e w' ⟨rfl,rfl⟩
    go_wp2
    go_roundw
    case rel=>exact ⟨3,by omega,rfl,HN'.out⟩
    case measure=>simp
   have hs1:0 < s.size:=by omega
   by_cases hc:(s[0]'hs1).toNat=99
   ·go_wp2_with fail
    refine (yS_ g s 99 _ (zt_ HL.out (B2.out 3) hg).1 (zt_ HL.out (B2.out 3) hg).2 hs1 hc).mono ?_
    rintro e W3 ⟨rfl,hW3⟩
    obtain ⟨r0',r1',q0',q1'⟩:=F2.out 3
    have f1:W3.cell? ⟨w.heap.size,1,none⟩=some (.func (.func 220) #[] #[.pointer (some ⟨g,0,none⟩)]):=by rw [hW3]; exact zf_ (F1.out 3) (by omega)
    have r0:W3.cell? ⟨w.heap.size+1,0,none⟩=some (.int .i64 0):=by rw [hW3]; exact zf_ r0' (by omega)
    have r1:W3.cell? ⟨w.heap.size+1,1,none⟩=some (.int .i64 0):=by rw [hW3]; exact zf_ r1' (by omega)
    have q0:W3.frozen? ⟨w.heap.size+1,0,none⟩=false:=by rw [hW3,World.frozen?_setCell]; exact q0'
    have q1:W3.frozen? ⟨w.heap.size+1,1,none⟩=false:=by rw [hW3,World.frozen?_setCell]; exact q1'
    have L3:Hid (Left W3 g (s.extract 1 s.size)):=by rw [hW3]; exact xJ_ (zt_ HL.out (B2.out 3) hg)
    have G3:Hid (w.grownBy W3 (some g)):=by rw [hW3]; exact zW_ (z3_ (B2.out 3)) (wa_ _ _ _ _)
    have hz3:w.heap.size+1 < W3.heap.size:=by rw [hW3]; simp only [World.setCell,Array.size_modify]; show _ < (W2.alloc _).heap.size; rw [World.size_alloc,HZ.out]; omega
    obtain ⟨n',k,hnk0⟩:∃ n' k,ld 9999 (bl (s.extract 1 s.size))=(n',k):=⟨_,_,rfl⟩
    have hnk:=hm_ hnk0
    have HRR:Hid (p=2∧n=n'∧ok=(decide (0 < k) && dotB 2 n')∧rest=(bl (s.extract 1 s.size)).drop k):=rU_ hR hs1 (c:=2) (by omega) hc hnk0
    clear hnk0 hW3 r0' r1' q0' q1' f0 hc
    go_wp2_with fail
    refine (yr_ g (s.extract 1 s.size) 9999 n' k hnk _ L3.out (by omega) (by omega) (by omega) (by rw [yv_ s 1 hs1]; omega)).mono ?_
    rintro e w4 ⟨rfl,hL4,hg4⟩
    replace r0:=hg4.cell r0 (fun e=>by simp at e; omega)
    replace r1:=hg4.cell r1 (fun e=>by simp at e; omega)
    replace q0:w4.frozen? ⟨w.heap.size+1,0,none⟩=false:=by rw [World.frozen?_of_block (w:=W3) (hg4.block (w.heap.size+1) hz3 (fun e=>by simp at e; omega))]; exact q0
    replace q1:w4.frozen? ⟨w.heap.size+1,1,none⟩=false:=by rw [World.frozen?_of_block (w:=W3) (hg4.block (w.heap.size+1) hz3 (fun e=>by simp at e; omega))]; exact q1
    have hz4:w.heap.size+1 < w4.heap.size:=Nat.lt_of_lt_of_le hz3 hg4.size
    have L4:Hid (Left w4 g _):=hL4
    have G4:Hid (w.grownBy w4 (some g)):=zW_ G3.out hg4
    clear hL4 hg4 f1 L3 G3 hz3
    by_cases hk:0 < k
    ·have hkd:decide (0 < k)=true:=decide_eq_true hk
     rw [hkd]
     go_wp2
     have HW:Below w4.heap.size w4 (w4.alloc (.cells #[.int .i64 2,.int .i64 n'] 41)).drew:=(zb_ _ _).drew
     refine wp_region_held_drew (S:=(fun w'=>w'.cell? ⟨w4.heap.size,0,none⟩=some (.int .i64 2)∧w'.cell? ⟨w4.heap.size,1,none⟩=some (.int .i64 n')∧w4.heap.size < w'.heap.size)) (by kernel_rfl) ?_ (fun hH=>?_)
     ·(try dsimp only)
      exact ⟨by go_simp,by go_simp,by simp⟩
     refine wTk 0 ?_
     refine wTk 1 ?_
     refine wTk 2 ?_
     refine wTk 3 ?_
     refine wRd 4 (fun K hK=>?_)
     go_simp
     (go_at_call 155; refine (x6_ 2 n' _).mono ?_; rintro e w5 ⟨rfl,hb⟩; replace HW:=(ze_ HW hb).out)
     (try simp only [])
     refine hK.out _ _ ?_ (fun hH'=>?_)
     ·(try dsimp only)
      exact ⟨za_ hb hH.1 hH.2.2,za_ hb hH.2.1 hH.2.2,Nat.lt_of_lt_of_le hH.2.2 hb.size⟩
     clear hK K
     clear hH
     have hH:=hH'
     clear hH'
     clear hb
     refine wLy ?_
     refine wTk 5 ?_
     have T0:=za_ HW r0 hz4
     have T1:=za_ HW r1 hz4
     have Z0:=zd_ HW q0 hz4
     have Z1:=zd_ HW q1 hz4
     refine wRd 6 (fun K hK=>?_)
     go_simp
     (try simp only [])
     refine wHk hK (⟨zf_ (zf_ hH.1 (by omega)) (by omega),zf_ (zf_ hH.2.1 (by omega)) (by omega),by simpa [World.setCell] using hH.2.2⟩) ?_
     clear hK K hH
     intro hH
     refine wTk 7 ?_
     refine wDn ?_
     have HWW:Hid (Below w4.heap.size w4 _):=HW
     clear hH r0 r1 q0 q1 HW
     go_wp2
     (try rw [Exit.noGoto_ret])
     refine bodyPost_ret (v:=.tuple #[.agg #[.int .i64 2,.int .i64 n'],.bool (dotB 2 n')]) (by simp [results,Tryz.results245,go_sem,T0,T1,Z0,Z1]) rfl ⟨by rw [HRR.out.1,HRR.out.2.1,HRR.out.2.2.1,hkd]; simp,_,yI_ (zt_ L4.out HWW.out (Nat.lt_trans hg (by omega))) (by omega),(xc_ _ _ (vf_ hnk (by decide))).trans HRR.out.2.2.2.symm,zD_ (zD_ (zW_ G4.out (z3_ HWW.out)) (by omega)) (by omega)⟩
    ·have hkd:decide (0 < k)=false:=decide_eq_false hk
     rw [hkd]
     go_wp2
     have HW:Below w4.heap.size w4 (w4.alloc (.cells #[.int .i64 2,.int .i64 n'] 41)).drew:=(zb_ _ _).drew
     refine wp_region_held_drew (S:=(fun w'=>w'.cell? ⟨w4.heap.size,0,none⟩=some (.int .i64 2)∧w'.cell? ⟨w4.heap.size,1,none⟩=some (.int .i64 n')∧w4.heap.size < w'.heap.size)) (by kernel_rfl) ?_ (fun hH=>?_)
     ·(try dsimp only)
      exact ⟨by go_simp,by go_simp,by simp⟩
     refine wTk 0 ?_
     refine wTk 1 ?_
     refine wTk 2 ?_
     refine wTn 3 ?_
     refine wTn 4 ?_
     refine wTk 5 ?_
     generalize (w4.alloc (.cells #[.int .i64 2,.int .i64 n'] 41)).drew=w5 at *
     have T0:=za_ HW r0 hz4
     have T1:=za_ HW r1 hz4
     have Z0:=zd_ HW q0 hz4
     have Z1:=zd_ HW q1 hz4
     refine wRd 6 (fun K hK=>?_)
     go_simp
     (try simp only [])
     refine wHk hK (⟨zf_ (zf_ hH.1 (by omega)) (by omega),zf_ (zf_ hH.2.1 (by omega)) (by omega),by simpa [World.setCell] using hH.2.2⟩) ?_
     clear hK K hH
     intro hH
     refine wTk 7 ?_
     refine wDn ?_
     have HWW:Hid (Below w4.heap.size w4 _):=HW
     clear hH r0 r1 q0 q1 HW
     go_wp2
     (try rw [Exit.noGoto_ret])
     refine bodyPost_ret (v:=.tuple #[.agg #[.int .i64 2,.int .i64 n'],.bool false]) (by simp [results,Tryz.results245,go_sem,T0,T1,Z0,Z1]) rfl ⟨by rw [HRR.out.1,HRR.out.2.1,HRR.out.2.2.1,hkd]; simp,_,yI_ (zt_ L4.out HWW.out (Nat.lt_trans hg (by omega))) (by omega),(xc_ _ _ (vf_ hnk (by decide))).trans HRR.out.2.2.2.symm,zD_ (zD_ (zW_ G4.out (z3_ HWW.out)) (by omega)) (by omega)⟩
   ·have HN':Hid (∀ h:0 < s.size,∀ j,j < 3→¬ (s[0]'h).toNat=97+j):=fun h j hj=>by
     by_cases e:j=2
     ·subst e; exact hc
     ·exact HN.out h j (by omega)
    go_wp2_with fail
    refine (yb_ g s 99 _ (zt_ HL.out (B2.out 3) hg).1 hs1 hc).mono ?_
    rintro e w' ⟨rfl,rfl⟩
    go_wp2
    go_roundw
    case rel=>exact ⟨3,by omega,rfl,HN'.out⟩
    case measure=>simp
  ·have hnx:∀ ty,(Instr.next (.pointer (some ⟨w.heap.size+1+1,0,none⟩)) true ty).run Tryz.prog (W2.iter ⟨#[97,98,99]⟩ 3)=.ok (.tuple #[.bool false]) (W2.iter ⟨#[97,98,99]⟩ 3):=fun ty=>by rw [← HZ.out]; exact run_next_end W2 ⟨#[97,98,99]⟩ 3 ty (by decide)
   obtain ⟨r0,r1,q0,q1⟩:=F2.out 3
   have HM:Hid (p=0∧n=0∧ok=false∧rest=bl s):=ol_ hR HN.out
   have L3:Hid (Left (W2.iter ⟨#[97,98,99]⟩ 3) g s):=zt_ HL.out (B2.out 3) hg
   have G3:Hid (w.grownBy (W2.iter ⟨#[97,98,99]⟩ 3) (some g)):=z3_ (B2.out 3)
   go_wp2
   (try rw [Exit.noGoto_ret])
   refine bodyPost_ret (v:=.tuple #[.agg #[.int .i64 0,.int .i64 0],.bool false]) (by simp [results,Tryz.results245,go_sem,r0,r1,q0,q1]) rfl ⟨by rw [HM.out.1,HM.out.2.1,HM.out.2.2.1],s,yI_ L3.out (by omega),HM.out.2.2.2.symm,zD_ (zD_ G3.out (by omega)) (by omega)⟩
end Go.Proofs.YtiokjphefpicbaaGreatDoor
