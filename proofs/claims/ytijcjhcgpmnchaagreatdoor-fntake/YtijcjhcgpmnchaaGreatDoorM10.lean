/- Nodes, part 10 of the law FnTake. -/
import Derived.Test.YtijcjhcgpmnchaaGreatDoorM06
import Derived.Test.YtijcjhcgpmnchaaGreatDoorItoa
import Derived.Lib.SmallJoins
import Derived.Lib.AppendIntMem
import Derived.Lib.ConvBytes
namespace Go.Proofs.YtijcjhcgpmnchaaGreatDoor
open Go.RowKit
set_option maxRecDepth 100000
set_option maxHeartbeats 16000000
set_option linter.unusedSimpArgs false
set_option linter.unusedVariables false
section
variable {w w':World}
def dsN (n:Nat):List UInt8:=if h:n < 10 then [UInt8.ofNat (48+n)] else dsN (n / 10)++[UInt8.ofNat (48+n % 10)]
termination_by n
decreasing_by omega
theorem oY_:∀ n:Nat,Lib.decDigits n=dsN n:=by
 intro n
 induction n using Nat.strongRecOn with
 | _ n ih=>
  rw [dsN,Lib.decDigits];by_cases h:n < 10
  ·rw [dif_pos h,dif_pos h]
  ·rw [dif_neg h,dif_neg h,ih (n / 10) (by omega)]
def TB (w : World) : Prop := Lib.TabIs Tryz.prog w (Rows.fnDigestRow.named.getD 1 "") .u64 Lib.pow10Tab
theorem TB.next (h:TB w) (hb:Below w.heap.size w w'):TB w':=Joins.tab_stays (g:=1) (by kernel_rfl) h hb (Nat.le_refl _)
theorem xv_ (n:Nat) (hn:n < 1000000000000000000) (w:World) (ht:TB w) :
  Calls Tryz.prog 144 #[.int .i64 n] w fun e w'=>e=.returned (.string ⟨(dsN n).toArray⟩)∧Below w.heap.size w w':=by
 refine (Any.strconv_Itoa Tryz.laysM171 (n:Int) (by omega) (by omega) w ht).mono ?_;rintro e w' ⟨rfl,k,os,rfl⟩;refine ⟨?_,Lib.below_grow _ _ (Nat.le_refl _) _ _⟩
 have:Lib.itoa (n:Int)=dsN n:=by
  unfold Lib.itoa;rw [if_neg (by omega),oY_];simp
 rw [this]
theorem yE_ (n:Nat) (h:n < 256):(UInt8.ofNat n).toNat=n:=by simp; omega
theorem xA_ (W:World) (b:Nat) (c:UInt8) (h:W.cell? ⟨b,0,none⟩=some (.int .u8 (c.toNat:Int))):Sem.run Tryz.prog (convert 22 9 (.slice (some ⟨b,0,none⟩) 1 1)) W=.ok (.string ⟨#[c]⟩) W:=by
 have:=run_convert_bytes_back (P:=Tryz.prog) W 22 9 5 ⟨b,0,none⟩ 1 [c] Tryz.underlying22 Tryz.underlying5 Tryz.underlying9 (fun j hj=>by
  have hj0:j=0:=by simpa using hj
  subst hj0
  exact h)
 exact this
theorem ys_ (a b:List UInt8):(⟨a.toArray⟩:ByteArray)++⟨b.toArray⟩=⟨(a++b).toArray⟩:=by
 apply ByteArray.ext;simp
theorem yb_ (n:Nat):(dsN n).length<=n+1:=by
 induction n using Nat.strongRecOn with
 | _ n ih=>
  rw [dsN];by_cases h:n < 10
  ·rw [dif_pos h]; simp
  ·rw [dif_neg h]
   have:=ih (n / 10) (by omega)
   simp;omega
theorem tq_ (n:Nat) (hn:n < 10) (w:World) :
  Calls Tryz.prog 83 #[.int .i64 n] w fun e w'=>e=.returned (.string ⟨(dsN n).toArray⟩)∧Below w.heap.size w w':=by
 have h1:((n:Int) == -9223372036854775808)=false:=beq_eq_false_iff_ne.2 (by omega);have h2:¬ (n:Int) < 0:=by omega
 have h3:(n:Int) < 10:=by omega
 obtain ⟨c,hc⟩:∃ c:UInt8,c=UInt8.ofNat (48+n):=⟨_,rfl⟩;have hcn:(c.toNat:Int)=48+(n:Int):=by rw [hc,yE_ _ (by omega)]; omega
 have hcv:=xA_ (w.alloc (.cells #[.int .u8 (48+(n:Int))] 5)) w.heap.size c (by rw [hcn]; go_simp);have HD:Hid (dsN n=[c]):=by show _=_; rw [dsN,dif_pos hn,hc]
 clear hc hcn;go_enter Tryz.func83,Tryz.ntmps83;go_wp2;go_ret;exact ⟨by rw [HD.out]; rfl,zb_ _ _⟩
theorem yl_:∀ (k n:Nat),n < k->n < 1000000000000000000->∀ w:World,
  Calls Tryz.prog 83 #[.int .i64 n] w fun e w'=>e=.returned (.string ⟨(dsN n).toArray⟩)∧Below w.heap.size w w':=by
 intro k
 induction k with
 | zero=>intro n h; omega
 | succ k ih=>
  intro n hn hb18 w;by_cases hs:n < 10
  ·exact tq_ n hs w
  have ih':∀ W:World,Calls Tryz.prog 83 #[.int .i64 ((n:Int) / 10)] W fun e w'=>e=.returned (.string ⟨(dsN (n / 10)).toArray⟩)∧Below W.heap.size W w':=fun W=>by
   have e:((n:Int) / 10)=((n / 10:Nat):Int):=by omega
   rw [e];exact ih (n / 10) (by omega) (by omega) W
  have h1:((n:Int) == -9223372036854775808)=false:=beq_eq_false_iff_ne.2 (by omega);have h2:¬ (n:Int) < 0:=by omega
  have h2':(0:Int)<=(n:Int):=by omega
  have h2'':(n:Int)<=999999999999999999:=by omega
  have q1:IntKind.i64.wrap ((n:Int) / 10)=(n:Int) / 10:=by rw [IntKind.wrap_i64]; omega
  have q2:((n:Int)).tmod 10=(n:Int) % 10:=Int.tmod_eq_emod_of_nonneg h2';have q3:IntKind.i64.wrap (48+(n:Int) % 10)=48+(n:Int) % 10:=by rw [IntKind.wrap_i64]; omega
  have q4:IntKind.u8.wrap (48+(n:Int) % 10)=48+(n:Int) % 10:=by unfold IntKind.wrap; simp [IntKind.bits,IntKind.signed]; omega
  have h3:¬ (n:Int) < 10:=by omega
  have IH:=hm_ ih';obtain ⟨c,hc⟩:∃ c:UInt8,c=UInt8.ofNat (48+n % 10):=⟨_,rfl⟩;have HC:Hid ((c.toNat:Int)=48+(n:Int) % 10):=by show _=_; rw [hc,yE_ _ (by omega)]; omega
  have HD:Hid (dsN n=dsN (n / 10)++[c]):=by
   show _=_
   rw [dsN,dif_neg hs,hc]
  obtain ⟨ds,hds⟩:∃ ds,ds=dsN (n / 10):=⟨_,rfl⟩;have hdl:¬ 9223372036854775807 < ds.length+1:=by have:=yb_ (n / 10); rw [<- hds] at this; omega
  rw [<- hds] at IH HD;clear ih' hc hds;clear ih hn;go_enter Tryz.func83,Tryz.ntmps83;go_wp2;refine wp_region_held_drew (S:=(fun w'=>Below w.heap.size w w')) (by kernel_rfl) ?_ (fun hH=>?_)
  ·(try dsimp only);exact zd_ _
  refine wTk 0 ?_;refine wTk 1 ?_;refine wTk 3 ?_;refine wTk 4 ?_;refine wTk 5 ?_;refine wTk 6 ?_;refine wpAnyH_ready (rs:=[2,7]) (by kernel_rfl) (by simp) ?_;refine .cons rfl (fun K hK=>?_) (.cons rfl (fun K hK=>?_) .nil)
  ·refine wLy ?_;go_simp;go_at_call 83;refine (IH.out _).mono ?_;rintro e w1 ⟨rfl,hb⟩;refine wHk hK ((ze_ hH hb).out) ?_;clear hK K hH;intro hH;clear hb;refine wRd 7 (fun K hK=>?_);go_simp;(try simp only []);refine wHk hK ((ze_ hH (zb_ (w1) (.cells #[.int .u8 (48+(n:Int) % 10)] 5))).out) ?_;clear hK K hH;intro hH;have C0:Hid ((w1.alloc (.cells #[.int .u8 (48+(n:Int) % 10)] 5)).cell? ⟨w1.heap.size,0,none⟩=some (.int .u8 (48+(n:Int) % 10))):=by show _=_; go_simp
   have CL:Hid (w1.heap.size < (w1.alloc (.cells #[.int .u8 (48+(n:Int) % 10)] 5)).heap.size):=by show _ < _; simp
   refine wRd 8 (fun K hK=>?_);have hcv:=xA_ (w1.alloc (.cells #[.int .u8 (48+(n:Int) % 10)] 5)) w1.heap.size c (by rw [HC.out]; exact C0.out);go_simp;(try simp only []);refine wHk hK (hH) ?_;clear hK K hH;intro hH;clear hcv;refine wTk 9 ?_;refine wTk 10 ?_;refine wDn ?_;have HB9:Hid (Below w.heap.size w _):=hH;clear hH;go_wp2;go_ret;exact ⟨by rw [HD.out,<- ys_]; rfl,HB9.out⟩
  ·refine wLy ?_;go_simp;(try simp only []);refine wHk hK ((ze_ hH (zb_ (w.drew) (.cells #[.int .u8 (48+(n:Int) % 10)] 5))).out) ?_;clear hK K hH;intro hH;have C0:Hid ((w.alloc (.cells #[.int .u8 (48+(n:Int) % 10)] 5)).drew.cell? ⟨w.heap.size,0,none⟩=some (.int .u8 (48+(n:Int) % 10))):=by show _=_; go_simp
   have CL:Hid (w.heap.size < (w.alloc (.cells #[.int .u8 (48+(n:Int) % 10)] 5)).drew.heap.size):=by show _ < _; simp
   refine wpAnyH_ready (rs:=[2,8]) (by kernel_rfl) (by simp) ?_;refine .cons rfl (fun K hK=>?_) (.cons rfl (fun K hK=>?_) .nil)
   focus
    refine wLy ?_;go_simp;go_at_call 83;refine (IH.out _).mono ?_;rintro e w1 ⟨rfl,hb⟩;have C1:Hid (_=_):=za_ hb C0.out CL.out;replace CL:Hid (_ < _):=Nat.lt_of_lt_of_le CL.out hb.size;refine wHk hK ((ze_ hH hb).out) ?_;clear hK K hH;intro hH;clear hb;refine wRd 8 (fun K hK=>?_);have hcv:=xA_ w1 w.heap.size c (by rw [HC.out]; exact C1.out);go_simp;(try simp only []);refine wHk hK (hH) ?_;clear hK K hH;intro hH;clear hcv
   rotate_left
   focus
    refine wLy ?_;have hcv:=xA_ (w.alloc (.cells #[.int .u8 (48+(n:Int) % 10)] 5)).drew w.heap.size c (by rw [HC.out]; exact C0.out);go_simp;(try simp only []);refine wHk hK (hH) ?_;clear hK K hH;intro hH;clear hcv;refine wRd 2 (fun K hK=>?_);go_simp;go_at_call 83;refine (IH.out _).mono ?_;rintro e w1 ⟨rfl,hb⟩;refine wHk hK ((ze_ hH hb).out) ?_;clear hK K hH;intro hH;clear hb
   rotate_left
   all_goals
    refine wTk 9 ?_;refine wTk 10 ?_;refine wDn ?_;have HB9:Hid (Below w.heap.size w _):=hH;clear hH;go_wp2;go_ret;exact ⟨by rw [HD.out,<- ys_]; rfl,HB9.out⟩
end
theorem rr_ (n:Nat) (hn:n < 10000) (w:World) (ht:Hid (TB w)) :
  Calls Tryz.prog 180 #[.agg #[.int .i64 0,.int .i64 n]] w fun e w'=>e=.returned (.string ⟨(97 :: dsN n).toArray⟩)∧Below w.heap.size w w':=by
 have HL:Hid (∀ s:List UInt8,(⟨#[97]⟩:ByteArray)++⟨s.toArray⟩=⟨(97 :: s).toArray⟩):=fun s=>ys_ [97] s
 have hdl:¬ 9223372036854775807 < 1+(dsN n).length:=by have:=yb_ n; omega
 have q3:IntKind.i64.wrap 1=1:=by decide
 have q4:(⟨#[97,98,99]⟩:ByteArray).extract 0 1=⟨#[97]⟩:=by decide
 go_enter Tryz.func180,Tryz.ntmps180;go_wp2;refine wp_region_held_drew (S:=(fun w'=>Below w.heap.size w w'∧w'.cell? ⟨w.heap.size,0,none⟩=some (.int .i64 0)∧w'.cell? ⟨w.heap.size,1,none⟩=some (.int .i64 n)∧w.heap.size < w'.heap.size)) (by kernel_rfl) ?_ (fun hH=>?_)
 ·(try dsimp only);exact ⟨(zb_ _ _).drew,by go_simp,by go_simp,by simp⟩
 refine wTk 0 ?_;refine wTk 1 ?_;refine wTk 2 ?_;refine wTk 3 ?_;refine wTk 4 ?_;refine wTk 5 ?_;refine wTk 6 ?_;refine wTk 7 ?_;refine wRd 8 (fun K hK=>?_);go_simp
 (go_at_call 144; refine (xv_ n (by omega) _ ((show TB w from ht.out).next hH.1)).mono ?_; rintro e w1 ⟨rfl,hb⟩)
 (try simp only []);refine hK.out _ _ ?_ (fun hH'=>?_)
 ·(try dsimp only);exact ⟨hH.1.trans (hb.mono hH.1.size),za_ hb hH.2.1 hH.2.2.2,za_ hb hH.2.2.1 hH.2.2.2,Nat.lt_of_lt_of_le hH.2.2.2 hb.size⟩
 clear hK K hH;have hH:=hH';clear hH';clear hb;refine wLy ?_;refine wTk 9 ?_;refine wTk 10 ?_;refine wDn ?_;have HB9:Hid (Below w.heap.size w _):=hH.1;clear hH;go_wp2;go_ret;exact ⟨by first | (rw [<- HL.out]; done) | (rw [<- HL.out]; rfl),HB9.out⟩
theorem rq_ (n:Nat) (hn:n < 10000) (w:World) (ht:Hid (TB w)) :
  Calls Tryz.prog 180 #[.agg #[.int .i64 1,.int .i64 n]] w fun e w'=>e=.returned (.string ⟨(98 :: dsN n).toArray⟩)∧Below w.heap.size w w':=by
 have HL:Hid (∀ s:List UInt8,(⟨#[98]⟩:ByteArray)++⟨s.toArray⟩=⟨(98 :: s).toArray⟩):=fun s=>ys_ [98] s
 have hdl:¬ 9223372036854775807 < 1+(dsN n).length:=by have:=yb_ n; omega
 have q3:IntKind.i64.wrap 2=2:=by decide
 have q4:(⟨#[97,98,99]⟩:ByteArray).extract 1 2=⟨#[98]⟩:=by decide
 go_enter Tryz.func180,Tryz.ntmps180;go_wp2;refine wp_region_held_drew (S:=(fun w'=>Below w.heap.size w w'∧w'.cell? ⟨w.heap.size,0,none⟩=some (.int .i64 1)∧w'.cell? ⟨w.heap.size,1,none⟩=some (.int .i64 n)∧w.heap.size < w'.heap.size)) (by kernel_rfl) ?_ (fun hH=>?_)
 ·(try dsimp only);exact ⟨(zb_ _ _).drew,by go_simp,by go_simp,by simp⟩
 refine wTk 0 ?_;refine wTk 1 ?_;refine wTk 2 ?_;refine wTk 3 ?_;refine wTk 4 ?_;refine wTk 5 ?_;refine wTk 6 ?_;refine wTk 7 ?_;refine wRd 8 (fun K hK=>?_);go_simp
 (go_at_call 144; refine (xv_ n (by omega) _ ((show TB w from ht.out).next hH.1)).mono ?_; rintro e w1 ⟨rfl,hb⟩)
 (try simp only []);refine hK.out _ _ ?_ (fun hH'=>?_)
 ·(try dsimp only);exact ⟨hH.1.trans (hb.mono hH.1.size),za_ hb hH.2.1 hH.2.2.2,za_ hb hH.2.2.1 hH.2.2.2,Nat.lt_of_lt_of_le hH.2.2.2 hb.size⟩
 clear hK K hH;have hH:=hH';clear hH';clear hb;refine wLy ?_;refine wTk 9 ?_;refine wTk 10 ?_;refine wDn ?_;have HB9:Hid (Below w.heap.size w _):=hH.1;clear hH;go_wp2;go_ret;exact ⟨by first | (rw [<- HL.out]; done) | (rw [<- HL.out]; rfl),HB9.out⟩
theorem rp_ (n:Nat) (hn:n < 10000) (w:World) (ht:Hid (TB w)) :
  Calls Tryz.prog 180 #[.agg #[.int .i64 2,.int .i64 n]] w fun e w'=>e=.returned (.string ⟨(99 :: dsN n).toArray⟩)∧Below w.heap.size w w':=by
 have HL:Hid (∀ s:List UInt8,(⟨#[99]⟩:ByteArray)++⟨s.toArray⟩=⟨(99 :: s).toArray⟩):=fun s=>ys_ [99] s
 have hdl:¬ 9223372036854775807 < 1+(dsN n).length:=by have:=yb_ n; omega
 have q3:IntKind.i64.wrap 3=3:=by decide
 have q4:(⟨#[97,98,99]⟩:ByteArray).extract 2 3=⟨#[99]⟩:=by decide
 go_enter Tryz.func180,Tryz.ntmps180;go_wp2;refine wp_region_held_drew (S:=(fun w'=>Below w.heap.size w w'∧w'.cell? ⟨w.heap.size,0,none⟩=some (.int .i64 2)∧w'.cell? ⟨w.heap.size,1,none⟩=some (.int .i64 n)∧w.heap.size < w'.heap.size)) (by kernel_rfl) ?_ (fun hH=>?_)
 ·(try dsimp only);exact ⟨(zb_ _ _).drew,by go_simp,by go_simp,by simp⟩
 refine wTk 0 ?_;refine wTk 1 ?_;refine wTk 2 ?_;refine wTk 3 ?_;refine wTk 4 ?_;refine wTk 5 ?_;refine wTk 6 ?_;refine wTk 7 ?_;refine wRd 8 (fun K hK=>?_);go_simp
 (go_at_call 144; refine (xv_ n (by omega) _ ((show TB w from ht.out).next hH.1)).mono ?_; rintro e w1 ⟨rfl,hb⟩)
 (try simp only []);refine hK.out _ _ ?_ (fun hH'=>?_)
 ·(try dsimp only);exact ⟨hH.1.trans (hb.mono hH.1.size),za_ hb hH.2.1 hH.2.2.2,za_ hb hH.2.2.1 hH.2.2.2,Nat.lt_of_lt_of_le hH.2.2.2 hb.size⟩
 clear hK K hH;have hH:=hH';clear hH';clear hb;refine wLy ?_;refine wTk 9 ?_;refine wTk 10 ?_;refine wDn ?_;have HB9:Hid (Below w.heap.size w _):=hH.1;clear hH;go_wp2;go_ret;exact ⟨by first | (rw [<- HL.out]; done) | (rw [<- HL.out]; rfl),HB9.out⟩
theorem rI_ (a:Int) (c:UInt8) (n:Nat) (h0:0<=a) (h1:a < 3) (HC:Hid ((c.toNat:Int)=97+a)) (hn:n < 10000) (w:World) :
  Calls Tryz.prog 155 #[.agg #[.int .i64 a,.int .i64 n]] w fun e w'=>e=.returned (.string ⟨(c :: dsN n).toArray⟩)∧Below w.heap.size w w':=by
 have HL:Hid (∀ s:List UInt8,(⟨#[c]⟩:ByteArray)++⟨s.toArray⟩=⟨(c :: s).toArray⟩):=fun s=>ys_ [c] s
 have hdl:¬ 9223372036854775807 < 1+(dsN n).length:=by have:=yb_ n; omega
 have q3:IntKind.i64.wrap (97+a)=97+a:=by rw [IntKind.wrap_i64]; omega
 have q4:IntKind.u8.wrap (97+a)=97+a:=by unfold IntKind.wrap; simp [IntKind.bits,IntKind.signed]; omega
 go_enter Tryz.func155,Tryz.ntmps155;go_wp2;refine wp_region_held_drew (S:=(fun w'=>Below w.heap.size w w'∧w'.cell? ⟨w.heap.size,0,none⟩=some (.int .i64 a)∧w'.cell? ⟨w.heap.size,1,none⟩=some (.int .i64 n)∧w.heap.size < w'.heap.size)) (by kernel_rfl) ?_ (fun hH=>?_)
 ·(try dsimp only);exact ⟨(zb_ _ _).drew,by go_simp,by go_simp,by simp⟩
 refine wTk 0 ?_;refine wTk 1 ?_;refine wTk 2 ?_;refine wTk 3 ?_;refine wTk 6 ?_;refine wTk 7 ?_;refine wpAnyH_ready (rs:=[4,8]) (by kernel_rfl) (by simp) ?_;refine .cons rfl (fun K hK=>?_) (.cons rfl (fun K hK=>?_) .nil)
 ·refine wLy ?_;go_simp;(try simp only []);refine wHk hK (⟨hH.1.trans ((zb_ ((w.alloc (.cells #[.int .i64 a,.int .i64 n] 41)).drew) (.cells #[.int .u8 (97+a)] 5)).mono hH.1.size),za_ (zb_ ((w.alloc (.cells #[.int .i64 a,.int .i64 n] 41)).drew) (.cells #[.int .u8 (97+a)] 5)) hH.2.1 hH.2.2.2,za_ (zb_ ((w.alloc (.cells #[.int .i64 a,.int .i64 n] 41)).drew) (.cells #[.int .u8 (97+a)] 5)) hH.2.2.1 hH.2.2.2,Nat.lt_of_lt_of_le hH.2.2.2 (zb_ ((w.alloc (.cells #[.int .i64 a,.int .i64 n] 41)).drew) (.cells #[.int .u8 (97+a)] 5)).size⟩) ?_;clear hK K hH;intro hH;have C0:Hid (((w.alloc (.cells #[.int .i64 a,.int .i64 n] 41)).alloc (.cells #[.int .u8 (97+a)] 5)).drew.cell? ⟨w.heap.size+1,0,none⟩=some (.int .u8 (97+a))):=by show _=_; go_simp
  have CL:Hid (w.heap.size+1 < ((w.alloc (.cells #[.int .i64 a,.int .i64 n] 41)).alloc (.cells #[.int .u8 (97+a)] 5)).drew.heap.size):=by show _ < _; simp
  refine wpAnyH_ready (rs:=[5,8]) (by kernel_rfl) (by simp) ?_;refine .cons rfl (fun K hK=>?_) (.cons rfl (fun K hK=>?_) .nil)
  focus
   refine wLy ?_;have hcv:=xA_ ((w.alloc (.cells #[.int .i64 a,.int .i64 n] 41)).alloc (.cells #[.int .u8 (97+a)] 5)).drew (w.heap.size+1) c (by rw [HC.out]; exact C0.out);go_simp;(try simp only []);refine wHk hK (hH) ?_;clear hK K hH;intro hH;clear hcv;refine wRd 8 (fun K hK=>?_);go_simp;go_at_call 83;refine (yl_ (n+1) n (by omega) (by omega) _).mono ?_;rintro e w1 ⟨rfl,hb⟩;refine wHk hK (⟨hH.1.trans ((hb).mono hH.1.size),za_ (hb) hH.2.1 hH.2.2.2,za_ (hb) hH.2.2.1 hH.2.2.2,Nat.lt_of_lt_of_le hH.2.2.2 (hb).size⟩) ?_;clear hK K hH;intro hH;clear hb
  rotate_left
  focus
   refine wLy ?_;go_simp;go_at_call 83;refine (yl_ (n+1) n (by omega) (by omega) _).mono ?_;rintro e w1 ⟨rfl,hb⟩;have C1:Hid (_=_):=za_ hb C0.out CL.out;replace CL:Hid (_ < _):=Nat.lt_of_lt_of_le CL.out hb.size;refine wHk hK (⟨hH.1.trans ((hb).mono hH.1.size),za_ (hb) hH.2.1 hH.2.2.2,za_ (hb) hH.2.2.1 hH.2.2.2,Nat.lt_of_lt_of_le hH.2.2.2 (hb).size⟩) ?_;clear hK K hH;intro hH;clear hb;refine wRd 5 (fun K hK=>?_);have hcv:=xA_ w1 (w.heap.size+1) c (by rw [HC.out]; exact C1.out);go_simp;(try simp only []);refine wHk hK (hH) ?_;clear hK K hH;intro hH;clear hcv
  rotate_left
  all_goals
   refine wTk 9 ?_;refine wTk 10 ?_;refine wDn ?_;have HB9:Hid (Below w.heap.size w _):=hH.1;clear hH;go_wp2;go_ret;exact ⟨by first | (rw [<- HL.out]; done) | (rw [<- HL.out]; rfl),HB9.out⟩
 ·refine wLy ?_;go_simp;go_at_call 83;refine (yl_ (n+1) n (by omega) (by omega) _).mono ?_;rintro e w1 ⟨rfl,hb⟩;refine wHk hK (⟨hH.1.trans ((hb).mono hH.1.size),za_ (hb) hH.2.1 hH.2.2.2,za_ (hb) hH.2.2.1 hH.2.2.2,Nat.lt_of_lt_of_le hH.2.2.2 (hb).size⟩) ?_;clear hK K hH;intro hH;clear hb;refine wRd 4 (fun K hK=>?_);go_simp;(try simp only []);refine wHk hK (⟨hH.1.trans ((zb_ (w1) (.cells #[.int .u8 (97+a)] 5)).mono hH.1.size),za_ (zb_ (w1) (.cells #[.int .u8 (97+a)] 5)) hH.2.1 hH.2.2.2,za_ (zb_ (w1) (.cells #[.int .u8 (97+a)] 5)) hH.2.2.1 hH.2.2.2,Nat.lt_of_lt_of_le hH.2.2.2 (zb_ (w1) (.cells #[.int .u8 (97+a)] 5)).size⟩) ?_;clear hK K hH;intro hH;have C0:Hid ((w1.alloc (.cells #[.int .u8 (97+a)] 5)).cell? ⟨w1.heap.size,0,none⟩=some (.int .u8 (97+a))):=by show _=_; go_simp
  have CL:Hid (w1.heap.size < (w1.alloc (.cells #[.int .u8 (97+a)] 5)).heap.size):=by show _ < _; simp
  refine wRd 5 (fun K hK=>?_);have hcv:=xA_ (w1.alloc (.cells #[.int .u8 (97+a)] 5)) (w1.heap.size) c (by rw [HC.out]; exact C0.out);go_simp;(try simp only []);refine wHk hK (hH) ?_;clear hK K hH;intro hH;clear hcv;refine wTk 9 ?_;refine wTk 10 ?_;refine wDn ?_;have HB9:Hid (Below w.heap.size w _):=hH.1;clear hH;go_wp2;go_ret;exact ⟨by first | (rw [<- HL.out]; done) | (rw [<- HL.out]; rfl),HB9.out⟩
end Go.Proofs.YtijcjhcgpmnchaaGreatDoor
