/- Nodes, part 12 of the law FnTake. -/
import Derived.Test.YtijcjhcgpmnchaaGreatDoorM10
import Derived.Test.YtijcjhcgpmnchaaGreatDoorJs
import Derived.Deep.Cut
namespace Go.Proofs.YtijcjhcgpmnchaaGreatDoor
open Go.RowKit
set_option maxRecDepth 100000
set_option maxHeartbeats 16000000
set_option linter.unusedSimpArgs false
set_option linter.unusedVariables false
section
variable {W w w':World} {X:List UInt8} {a c:Int} {base e i n n':Nat} {l:List Sib} {t:TypeId} {v:Value} {xs xs':List Value}
theorem xW_:(Tryz.prog.info? 9).map (fun i=>(i.zero,i.size,i.bytes))=some (some (.string ⟨#[]⟩),1,16):=by kernel_rfl
theorem y7_ {size:Nat} (h:w.ownsRow base e size v n xs) (h1:n=n') (h2:xs=xs'):w.ownsRow base e size v n' xs':=by subst h1; subst h2; exact h
theorem xU_:∀ j u,([v]:List Value)[j]? = some u->(W.alloc (.cells #[v] t)).cell? ((⟨W.heap.size,0,none⟩:Addr).add j)=some u:=by
 intro j u hu;cases j with
 | zero=>simp at hu; subst hu; show (W.alloc _).cell? ⟨W.heap.size,0,none⟩=_; go_simp
 | succ j=>simp at hu
theorem xb_ (h:Gro w w' (.slice none 0 0) v):Below w.heap.size w w':=h.below (Nat.le_refl _) (fun k hk=>by simp [Value.ownBlock] at hk)
def vj (X Y Z:List UInt8):List UInt8:=X++(46 :: Y)++(46 :: Z)
theorem nD_ (X Y Z:List UInt8):Lib.join (([⟨X.toArray⟩,⟨Y.toArray⟩,⟨Z.toArray⟩]:List ByteArray).map (·.data.toList)) (⟨#[46]⟩:ByteArray).data.toList=vj X Y Z:=by
 simp [Lib.join_cons,Lib.joinTail,vj]
theorem row3 (h:w.ownsRow 0 9 1 v 3 xs):∃ g cap,v=.slice (some ⟨g,0,none⟩) 3 cap∧g < w.heap.size∧3<=cap∧∀ j u,xs[j]? = some u->w.cell? ((⟨g,0,none⟩:Addr).add j)=some u:=by
 have h0:=h;rcases h.2 with ⟨_,h'⟩ | ⟨g,cap,cur,rfl,hbg,hg,hnc,r⟩
 ·cases h'
 ·refine ⟨g,cap,rfl,?_,hnc,h0.cells (g:=g) rfl⟩;rcases Nat.lt_or_ge g w.heap.size with h' | h'
  ·exact h'
  ·rw [Array.getElem?_eq_none h'] at hg; cases hg
theorem ro_ (a b c:Int) (X Y Z:List UInt8) (w:World) (ht:Hid (TB w))
  (D0:Hid (∀ W,TB W->Calls Tryz.prog 144 #[.int .i64 a] W fun e w'=>e=.returned (.string ⟨X.toArray⟩)∧Below W.heap.size W w'))
  (D1:Hid (∀ W,TB W->Calls Tryz.prog 144 #[.int .i64 b] W fun e w'=>e=.returned (.string ⟨Y.toArray⟩)∧Below W.heap.size W w'))
  (D2:Hid (∀ W,TB W->Calls Tryz.prog 144 #[.int .i64 c] W fun e w'=>e=.returned (.string ⟨Z.toArray⟩)∧Below W.heap.size W w'))
  (hl:Hid ((vj X Y Z).length<=1000000)) :
  Calls Tryz.prog 147 #[(.agg #[.int .i64 a,.int .i64 b,.int .i64 c])] w fun e w'=>e=.returned (.string ⟨(vj X Y Z).toArray⟩)∧Below w.heap.size w w':=by
 obtain ⟨i0,hi,hz0,hz1,hz2⟩:=info_parts xW_;have HI:Hid (Tryz.prog.info? 9=some i0∧i0.zero=some (.string ⟨#[]⟩)∧i0.size=1∧i0.bytes=16):=⟨hi,hz0,hz1,hz2⟩;clear hi hz0 hz1 hz2;have i0':=idx0 a b c;have i1:=idx1 a b c;have i2:=idx2 a b c;have G0:Hid (Gro w (w.alloc (.cells #[.int .i64 a,.int .i64 b,.int .i64 c] 35)) (.slice none 0 0) (.slice none 0 0)):=Gro.of_below (zb_ _ _);go_enter Tryz.func147,Tryz.ntmps147;go_wp2;refine wp_loop_rounds 4 ?_;rw [rounds_succ];go_wp2_with fail;refine (D0.out _ ((show TB w from ht.out).next (xb_ G0.out))).mono ?_
 rintro e w1 ⟨rfl,hb⟩;replace G0:Hid (Gro w w1 _ _):=G0.out.trans (Gro.of_below hb);clear hb D0;go_wp2_with (first | (at_builtin; refine zJ_ rfl _ _ 25 rfl 9 i0 (.string ⟨#[]⟩) 1 16 Tryz.underlying25 HI.out.1 HI.out.2.1 HI.out.2.2.1 HI.out.2.2.2 rfl (by decide) (.slice none 0 0) _ _ rfl (World.ownsRow_nil _ 0 9 1) ⟨w1.heap.size,0,none⟩ 1 1 [.string ⟨X.toArray⟩] rfl rfl xU_ (fun u hu=>by simp at hu; subst hu; rfl) (by unfold maxLen; omega) (by omega) ?_) | fail);intro v1 w2 ho hg;have O1:Hid (w2.ownsRow 0 9 1 v1 1 [.string ⟨X.toArray⟩]):=y7_ ho (by simp) (by simp);replace G0:Hid (Gro w w2 _ _):=G0.out.trans ((Gro.of_below (zb_ _ _)).trans hg);clear ho hg;go_wp2;rw [rounds_succ];go_wp2_with fail;refine (D1.out _ ((show TB w from ht.out).next (xb_ G0.out))).mono ?_
 rintro e w3 ⟨rfl,hb⟩;replace O1:Hid (w3.ownsRow 0 9 1 v1 1 [.string ⟨X.toArray⟩]):=zP_ O1.out hb;replace G0:Hid (Gro w w3 _ _):=G0.out.trans (Gro.of_below hb);clear hb D1;go_wp2_with (first | (at_builtin; refine zJ_ rfl _ _ 25 rfl 9 i0 (.string ⟨#[]⟩) 1 16 Tryz.underlying25 HI.out.1 HI.out.2.1 HI.out.2.2.1 HI.out.2.2.2 rfl (by decide) v1 _ _ rfl (O1.out.alloc _) ⟨w3.heap.size,0,none⟩ 1 1 [.string ⟨Y.toArray⟩] rfl rfl xU_ (fun u hu=>by simp at hu; subst hu; rfl) (by unfold maxLen; omega) (by omega) ?_) | fail);intro v2 w4 ho hg;have O2:Hid (w4.ownsRow 0 9 1 v2 2 [.string ⟨X.toArray⟩,.string ⟨Y.toArray⟩]):=y7_ ho (by simp) (by simp);replace G0:Hid (Gro w w4 _ _):=G0.out.trans ((Gro.of_below (zb_ _ _)).trans hg);clear ho hg O1;go_wp2;rw [rounds_succ];go_wp2_with fail;refine (D2.out _ ((show TB w from ht.out).next (xb_ G0.out))).mono ?_
 rintro e w5 ⟨rfl,hb⟩;replace O2:Hid (w5.ownsRow 0 9 1 v2 2 [.string ⟨X.toArray⟩,.string ⟨Y.toArray⟩]):=zP_ O2.out hb;replace G0:Hid (Gro w w5 _ _):=G0.out.trans (Gro.of_below hb);clear hb D2;go_wp2_with (first | (at_builtin; refine zJ_ rfl _ _ 25 rfl 9 i0 (.string ⟨#[]⟩) 1 16 Tryz.underlying25 HI.out.1 HI.out.2.1 HI.out.2.2.1 HI.out.2.2.2 rfl (by decide) v2 _ _ rfl (O2.out.alloc _) ⟨w5.heap.size,0,none⟩ 1 1 [.string ⟨Z.toArray⟩] rfl rfl xU_ (fun u hu=>by simp at hu; subst hu; rfl) (by unfold maxLen; omega) (by omega) ?_) | fail);intro v3 w6 ho hg;have O3:Hid (w6.ownsRow 0 9 1 v3 3 [.string ⟨X.toArray⟩,.string ⟨Y.toArray⟩,.string ⟨Z.toArray⟩]):=y7_ ho (by simp) (by simp);replace G0:Hid (Gro w w6 _ _):=G0.out.trans ((Gro.of_below (zb_ _ _)).trans hg);clear ho hg O2;obtain ⟨g,cap,rfl,hgl,hcap,hcs⟩:=row3 O3.out;have HG:=hm_ hgl;have HCP:Hid (3<=cap):=hcap
 have HCS:Hid (∀ (j:Nat) x,([⟨X.toArray⟩,⟨Y.toArray⟩,⟨Z.toArray⟩]:List ByteArray)[j]? = some x->w6.cell? ⟨g,0+j,none⟩=some (.string x)):=fun j x hx=>by
  have h1:([⟨X.toArray⟩,⟨Y.toArray⟩,⟨Z.toArray⟩].map Value.string:List Value)[j]? = some (.string x):=by rw [List.getElem?_map,hx]; rfl
  have h2:=hcs j (.string x) h1;cases j with
  | zero=>exact h2
  | succ j=>simpa [Addr.add] using h2
 clear hgl hcap hcs O3
 have JN:Hid (Calls Tryz.prog 149 #[.slice (some ⟨g,0,none⟩) 3 cap,.string ⟨#[46]⟩] w6 fun e w'=>e=.returned (.string ⟨(vj X Y Z).toArray⟩)∧Below w6.heap.size w6 w'):=by
  have:=Any.strings_Join Tryz.lays156 Tryz.Builder_Extra_156 g 0 cap [⟨X.toArray⟩,⟨Y.toArray⟩,⟨Z.toArray⟩] ⟨#[46]⟩ w6 HCS.out HG.out (by simp) HCP.out (by rw [nD_]; have:=hl.out; omega)
  rw [nD_] at this;exact this
 go_wp2;rw [rounds_succ];go_wp2_with fail;refine JN.out.mono ?_;rintro e w7 ⟨rfl,hb⟩;go_wp2;go_ret;exact ⟨rfl,xb_ (G0.out.trans (Gro.of_below hb))⟩
theorem s7_ (a b c:Int) (X Y Z:List UInt8) (w:World)
  (D0:Hid (∀ W,Calls Tryz.prog 83 #[.int .i64 a] W fun e w'=>e=.returned (.string ⟨X.toArray⟩)∧Below W.heap.size W w'))
  (D1:Hid (∀ W,Calls Tryz.prog 83 #[.int .i64 b] W fun e w'=>e=.returned (.string ⟨Y.toArray⟩)∧Below W.heap.size W w'))
  (D2:Hid (∀ W,Calls Tryz.prog 83 #[.int .i64 c] W fun e w'=>e=.returned (.string ⟨Z.toArray⟩)∧Below W.heap.size W w'))
  (hx:X.length<=20000) (hy:Y.length<=20000) (hz:Z.length<=20000) :
  Calls Tryz.prog 154 #[(.agg #[.int .i64 a,.int .i64 b,.int .i64 c])] w fun e w'=>e=.returned (.string ⟨(vj X Y Z).toArray⟩)∧Below w.heap.size w w':=by
 have n1:¬ 9223372036854775807 < 1+Y.length:=by omega
 have n2:¬ 9223372036854775807 < 1+Z.length:=by omega
 have n3:¬ 9223372036854775807 < X.length+(1+Y.length):=by omega
 have n4:¬ 9223372036854775807 < X.length+(1+Y.length)+(1+Z.length):=by omega
 clear hx hy hz;have B0:Hid (Below w.heap.size w (w.alloc (.cells #[.int .i64 a,.int .i64 b,.int .i64 c] 35))):=zb_ _ _;go_enter Tryz.func154,Tryz.ntmps154;go_wp2_with fail;refine (D0.out _).mono ?_;rintro e w1 ⟨rfl,hb⟩;have c1:=za_ hb (b:=w.heap.size) (o:=1) (v:=.int .i64 b) (by go_simp) (by simp);have c2:=za_ hb (b:=w.heap.size) (o:=2) (v:=.int .i64 c) (by go_simp) (by simp);replace B0:=ze_ B0 hb;have hz:w.heap.size < w1.heap.size:=Nat.lt_of_lt_of_le (by simp) hb.size;clear hb D0;go_wp2;refine wp_loop_rounds 3 ?_;rw [rounds_succ];go_wp2_with fail;refine (D1.out _).mono ?_;rintro e w2 ⟨rfl,hb⟩;replace c2:=za_ hb c2 hz;replace B0:=ze_ B0 hb;replace hz:w.heap.size < w2.heap.size:=Nat.lt_of_lt_of_le hz hb.size;clear hb D1;go_wp2;rw [rounds_succ];go_wp2_with fail;refine (D2.out _).mono ?_;rintro e w3 ⟨rfl,hb⟩;replace B0:=ze_ B0 hb;clear hb D2;go_wp2;rw [rounds_succ];go_wp2;go_ret;refine ⟨?_,B0.out⟩;have e1:∀ s:List UInt8,(⟨#[46]⟩:ByteArray)++⟨s.toArray⟩=⟨(46 :: s).toArray⟩:=fun s=>ys_ [46] s
 rw [e1,e1,ys_,ys_];rfl
def nl (p:Int):UInt8:=if p=0 then 97 else if p=1 then 98 else 99
def dotT (p n:Int):List UInt8:=nl p :: dsN n.toNat
def sibT (s:Sib):List UInt8:=dotT s.p s.n++(if s.d then [33] else 61 :: dsN s.v.toNat)
theorem ux_ (p n:Int) (h:n<=9999):(dotT p n).length<=10001:=by
 unfold dotT
 have:=yb_ n.toNat
 simp;omega
theorem dotI (p n:Int) (hp:p=0∨p=1∨p=2) (h0:0<=n) (h1:n<=9999) (w:World) (ht:TB w) :
  Calls Tryz.prog 180 #[.agg #[.int .i64 p,.int .i64 n]] w fun e w'=>e=.returned (.string ⟨(dotT p n).toArray⟩)∧Below w.heap.size w w':=by
 obtain ⟨k,rfl⟩:∃ k:Nat,n=k:=⟨n.toNat,by omega⟩;rcases hp with rfl | rfl | rfl
 ·exact rr_ k (by omega) w ht
 ·exact rq_ k (by omega) w ht
 ·exact rp_ k (by omega) w ht
theorem dotS (p n:Int) (hp:p=0∨p=1∨p=2) (h0:0<=n) (h1:n<=9999) (w:World) :
  Calls Tryz.prog 155 #[.agg #[.int .i64 p,.int .i64 n]] w fun e w'=>e=.returned (.string ⟨(dotT p n).toArray⟩)∧Below w.heap.size w w':=by
 obtain ⟨k,rfl⟩:∃ k:Nat,n=k:=⟨n.toNat,by omega⟩;refine rI_ p (nl p) k (by omega) (by omega) ?_ (by omega) w;show ((nl p).toNat:Int)=97+p
 rcases hp with rfl | rfl | rfl <;> rfl
theorem yI_ {s:Sib} (h:zW_ s.p s.n s.v s.d=true):(s.p=0∨s.p=1∨s.p=2)∧0<=s.n∧s.n<=9999∧0<=s.v∧s.v<=999:=by
 unfold zW_ dotB at h;simp at h;omega
theorem pi_ {s:Sib} (h:zW_ s.p s.n s.v s.d=true):(sibT s).length<=12000:=by
 have h1:=yI_ h;have h2:=ux_ s.p s.n h1.2.2.1;have h3:=yb_ s.v.toNat;unfold sibT;split <;> simp <;> omega
theorem sibI (s:Sib) (hk:zW_ s.p s.n s.v s.d=true) (w:World) (ht0:TB w) :
  Calls Tryz.prog 148 #[.agg #[.int .i64 s.p,.int .i64 s.n,.int .i64 s.v,.bool s.d]] w fun e w'=>e=.returned (.string ⟨(sibT s).toArray⟩)∧Below w.heap.size w w':=by
 obtain ⟨hp,n0,n1,v0,v1⟩:=yI_ hk;have ht:Hid (TB w):=ht0;obtain ⟨D,hD⟩:∃ D,D=dotT s.p s.n:=⟨_,rfl⟩;have hDl:D.length<=10001:=by rw [hD]; exact ux_ _ _ n1
 have CD:Hid (∀ W,TB W->Calls Tryz.prog 180 #[.agg #[.int .i64 s.p,.int .i64 s.n]] W fun e w'=>e=.returned (.string ⟨D.toArray⟩)∧Below W.heap.size W w'):=fun W h=>by rw [hD]; exact dotI s.p s.n hp n0 n1 W h
 obtain ⟨X,hX⟩:∃ X,X=dsN s.v.toNat:=⟨_,rfl⟩;have hXl:X.length<=1000:=by rw [hX]; have:=yb_ s.v.toNat; omega
 have CV:Hid (∀ W,TB W->Calls Tryz.prog 144 #[.int .i64 s.v] W fun e w'=>e=.returned (.string ⟨X.toArray⟩)∧Below W.heap.size W w'):=fun W h=>by
  have h1:=xv_ s.v.toNat (by omega) W h;rw [Int.toNat_of_nonneg v0] at h1;rw [hX]; exact h1
 have HS:Hid (sibT s=D++(if s.d then [33] else 61 :: X)):=by show _=_; unfold sibT; rw [hD,hX]
 have B0:Hid (Below w.heap.size w (w.alloc (.cells #[.int .i64 s.p,.int .i64 s.n,.int .i64 s.v,.bool s.d] 89))):=zb_ _ _;clear hk hp n0 n1 v0 v1 ht0 hD hX;have e33:∀ l:List UInt8,(⟨l.toArray⟩:ByteArray)++⟨#[33]⟩=⟨(l++[33]).toArray⟩:=fun l=>ys_ l [33]
 have e61:∀ l:List UInt8,(⟨l.toArray⟩:ByteArray)++⟨#[61]⟩=⟨(l++[61]).toArray⟩:=fun l=>ys_ l [61]
 have E33:Hid _:=e33;have E61:Hid _:=e61;clear e33 e61;have q1:¬ 9223372036854775807 < D.length+1:=by omega
 have q2:¬ 9223372036854775807 < D.length+1+X.length:=by omega
 cases hd:s.d
 ·rw [hd] at HS B0;go_enter Tryz.func148,Tryz.ntmps148;go_upto_region 3 with fail;have c0:(w.alloc (.cells #[.int .i64 s.p,.int .i64 s.n,.int .i64 s.v,.bool false] 89)).cell? ⟨w.heap.size,0,none⟩=some (.int .i64 s.p):=by go_simp
  have c1:(w.alloc (.cells #[.int .i64 s.p,.int .i64 s.n,.int .i64 s.v,.bool false] 89)).cell? ⟨w.heap.size,1,none⟩=some (.int .i64 s.n):=by go_simp
  have c2:(w.alloc (.cells #[.int .i64 s.p,.int .i64 s.n,.int .i64 s.v,.bool false] 89)).cell? ⟨w.heap.size,2,none⟩=some (.int .i64 s.v):=by go_simp
  have c3:(w.alloc (.cells #[.int .i64 s.p,.int .i64 s.n,.int .i64 s.v,.bool false] 89)).cell? ⟨w.heap.size,3,none⟩=some (.bool false):=by go_simp
  have hz:w.heap.size < (w.alloc (.cells #[.int .i64 s.p,.int .i64 s.n,.int .i64 s.v,.bool false] 89)).heap.size:=by simp
  have HB0:=B0;generalize (w.alloc (.cells #[.int .i64 s.p,.int .i64 s.n,.int .i64 s.v,.bool false] 89))=W0 at *;refine wp_region_held_drew (S:=(fun w'=>Below w.heap.size w w'∧w'.cell? ⟨w.heap.size,0,none⟩=some (.int .i64 s.p)∧w'.cell? ⟨w.heap.size,1,none⟩=some (.int .i64 s.n)∧w'.cell? ⟨w.heap.size,2,none⟩=some (.int .i64 s.v)∧w'.cell? ⟨w.heap.size,3,none⟩=some (.bool false)∧w.heap.size < w'.heap.size)) (by kernel_rfl) ?_ (fun hH=>?_)
  ·(try dsimp only);exact ⟨(ze_ HB0 (zd_ _)).out,c0,c1,c2,c3,hz⟩
  refine wTk 0 ?_;refine wTk 1 ?_;refine wTk 4 ?_;refine wTk 5 ?_;refine wRd 2 (fun K hK=>?_);go_simp
  (refine Calls.mono (CD.out _ (ht.out.next hH.1)) ?_; rintro e w1 ⟨rfl,hb⟩)
  (try simp only []);refine hK.out _ _ ?_ (fun hH'=>?_)
  ·(try dsimp only);exact ⟨hH.1.trans (hb.mono hH.1.size),za_ hb hH.2.1 hH.2.2.2.2.2,za_ hb hH.2.2.1 hH.2.2.2.2.2,za_ hb hH.2.2.2.1 hH.2.2.2.2.2,za_ hb hH.2.2.2.2.1 hH.2.2.2.2.2,Nat.lt_of_lt_of_le hH.2.2.2.2.2 hb.size⟩
  clear hK K hH;have hH:=hH';clear hH';clear hb;refine wLy ?_;refine wTk 3 ?_;refine wRd 6 (fun K hK=>?_);go_simp
  (refine Calls.mono (CV.out _ (ht.out.next hH.1)) ?_; rintro e w2 ⟨rfl,hb⟩)
  (try simp only []);refine hK.out _ _ ?_ (fun hH'=>?_)
  ·(try dsimp only);exact ⟨hH.1.trans (hb.mono hH.1.size),za_ hb hH.2.1 hH.2.2.2.2.2,za_ hb hH.2.2.1 hH.2.2.2.2.2,za_ hb hH.2.2.2.1 hH.2.2.2.2.2,za_ hb hH.2.2.2.2.1 hH.2.2.2.2.2,Nat.lt_of_lt_of_le hH.2.2.2.2.2 hb.size⟩
  clear hK K hH;have hH:=hH';clear hH';clear hb;refine wLy ?_;refine wTk 7 ?_;refine wTk 8 ?_;refine wDn ?_;have HB9:Hid (Below w.heap.size w _):=hH.1;clear hH c0 c1 c2 c3 hz HB0 B0;go_wp2;go_ret;refine ⟨?_,HB9.out⟩;rw [HS.out,E61.out,ys_];simp
 ·rw [hd] at HS B0;go_enter Tryz.func148,Tryz.ntmps148;go_wp2_with fail;refine Calls.mono (CD.out _ (ht.out.next B0.out)) ?_;rintro e w1 ⟨rfl,hb⟩;replace B0:=ze_ B0 hb;clear hb;go_wp2;go_ret;refine ⟨?_,B0.out⟩;rw [HS.out,E33.out];simp
def objT (X:List UInt8) (l:List Sib):List UInt8:=X++l.flatMap fun s=>124 :: sibT s
theorem r9_ (h:i < l.length):objT X (l.take (i+1))=objT X (l.take i)++124 :: sibT l[i]:=by
 unfold objT;rw [List.take_succ_eq_append_getElem h,List.flatMap_append,List.append_assoc];simp
theorem v9_ {X:List UInt8}:∀ {l:List Sib},(∀ s ∈ l,zW_ s.p s.n s.v s.d=true)->(objT X l).length<=X.length+l.length * 12001
 | [],_=>by simp [objT]
 | s :: l,h=>by
  have h1:=v9_ (X:=X) (l:=l) (fun t ht=>h t (List.mem_cons_of_mem _ ht));have h2:=pi_ (h s (by simp));unfold objT at *;simp at *;omega
theorem vJ_ (cap:Nat) (ao:Option Addr) (l:List Sib) (a b c:Int) (X:List UInt8) (w:World) (hX:X.length<=100000) (hl:l.length<=100) (hk0:∀ s ∈ l,zW_ s.p s.n s.v s.d=true) (hr0:zk_ w ao l)
  (CV:Hid (∀ W,Calls Tryz.prog 154 #[.agg #[.int .i64 a,.int .i64 b,.int .i64 c]] W fun e w'=>e=.returned (.string ⟨X.toArray⟩)∧Below W.heap.size W w')) :
  Calls Tryz.prog 105 #[.agg #[.slice ao l.length cap,.int .i64 a,.int .i64 b,.int .i64 c]] w fun e w'=>e=.returned (.string ⟨(objT X l).toArray⟩)∧Below w.heap.size w w':=by
 have RA:Hid (zk_ w ao l):=hr0;have HK:=hm_ hk0;have HL:Hid (l.length<=100∧X.length<=100000):=⟨hl,hX⟩;have B0:Hid (Below w.heap.size w (w.alloc (.cells #[.slice ao l.length cap,.int .i64 a,.int .i64 b,.int .i64 c] 37))):=zb_ _ _;clear hr0 hk0 hX;go_enter Tryz.func105,Tryz.ntmps105;go_wp2_with fail;refine Calls.mono (CV.out _) ?_;rintro e w1 ⟨rfl,hb⟩;have c0:=za_ hb (b:=w.heap.size) (o:=0) (v:=.slice ao l.length cap) (by go_simp) (by simp);replace B0:=ze_ B0 hb;have hz:w.heap.size < w1.heap.size:=Nat.lt_of_lt_of_le (by simp) hb.size;clear hb CV;go_wp2;go_loopw [3,4] (fun s3 s4 wr=>∃ (i:Nat) (out:ByteArray),i<=l.length∧s4=.int .i64 i∧s3=.string out∧out=⟨(objT X (l.take i)).toArray⟩∧Below w.heap.size w wr∧w.heap.size < wr.heap.size∧wr.cell? ⟨w.heap.size,0,none⟩=some (.slice ao l.length cap)) (fun _ s4 _=>l.length - (intOf s4).toNat)
 case atStart=>exact ⟨0,_,by omega,rfl,rfl,by simp [objT],B0.out,hz,c0⟩
 case round=>
  clear c0 hz B0;obtain ⟨i,out,hil,rfl,rfl,hO0,hB0,hz,k0⟩:=hrel;have HO:=hm_ hO0;have HB:=hm_ hB0;clear hO0 hB0;by_cases hkl:i < l.length
  ·have hkl':(i:Int) < (l.length:Int):=by omega
   have kk:(0:Int)<=(i:Int):=by omega
   obtain ⟨s,hs⟩:∃ s,s=l[i]:=⟨_,rfl⟩;have hok:zW_ s.p s.n s.v s.d=true:=by rw [hs]; exact HK.out _ (List.getElem_mem _)
   obtain ⟨hp,n0,n1,v0,v1⟩:=yI_ hok;rcases RA.out with h' | ⟨p,off,rfl,h2⟩
   ·rw [h'] at hkl; simp at hkl
   obtain ⟨x0,x1,x2,x3⟩:=h2 i hkl;rw [<- hs] at x0 x1 x2 x3;replace x0:=za_ HB.out x0 (zh_ x0);replace x1:=za_ HB.out x1 (zh_ x1);replace x2:=za_ HB.out x2 (zh_ x2);replace x3:=za_ HB.out x3 (zh_ x3)
   have hlen:out.size<=1400000:=by
    rw [HO.out];have h1:=v9_ (X:=X) (l:=l.take i) (fun t ht=>HK.out t (List.mem_of_mem_take ht));have h3:=HL.out;have h4:(l.take i).length<=100:=by simp; omega
    simp [ByteArray.size];omega
   obtain ⟨D,hD⟩:∃ D,D=dotT s.p s.n:=⟨_,rfl⟩;have hDl:D.length<=10001:=by rw [hD]; exact ux_ _ _ n1
   have CD:Hid (∀ W,Calls Tryz.prog 155 #[.agg #[.int .i64 s.p,.int .i64 s.n]] W fun e w'=>e=.returned (.string ⟨D.toArray⟩)∧Below W.heap.size W w'):=fun W=>by rw [hD]; exact dotS s.p s.n hp n0 n1 W
   obtain ⟨Y,hY⟩:∃ Y,Y=dsN s.v.toNat:=⟨_,rfl⟩;have hYl:Y.length<=1000:=by rw [hY]; have:=yb_ s.v.toNat; omega
   have CX:Hid (∀ W,Calls Tryz.prog 83 #[.int .i64 s.v] W fun e w'=>e=.returned (.string ⟨Y.toArray⟩)∧Below W.heap.size W w'):=fun W=>by
    have h1:=yl_ (s.v.toNat+1) s.v.toNat (by omega) (by omega) W;rw [Int.toNat_of_nonneg v0] at h1;rw [hY]; exact h1
   have HS:Hid (objT X (l.take (i+1))=objT X (l.take i)++124 :: (D++(if s.d then [33] else 61 :: Y))):=by
    show _=_
    rw [r9_ hkl,<- hs,hD,hY];rfl
   have HO2:Hid (∀ bs:List UInt8,(124 :: (D++(if s.d then [33] else 61 :: Y)))=bs->out++⟨bs.toArray⟩=⟨(objT X (l.take (i+1))).toArray⟩):=fun bs hbs=>by rw [HS.out,HO.out,ys_,<- hbs]
   have q0:¬ 9223372036854775807 < 1+D.length:=by omega
   have q1:¬ 9223372036854775807 < out.size+(1+D.length):=by omega
   have q2:¬ 9223372036854775807 < out.size+(1+D.length)+1:=by omega
   have q3:¬ 9223372036854775807 < 1+Y.length:=by omega
   have q4:¬ 9223372036854775807 < out.size+(1+D.length)+(1+Y.length):=by omega
   clear hs hok hp n0 n1 v0 v1 h2 hD hY HS HO hlen hDl hYl;go_wp2_with fail;refine Calls.mono (CD.out _) ?_;rintro e w2 ⟨rfl,hb⟩;replace x0:=za_ hb x0 (zh_ x0);replace x1:=za_ hb x1 (zh_ x1);replace x2:=za_ hb x2 (zh_ x2);replace x3:=za_ hb x3 (zh_ x3);replace k0:=za_ hb k0 hz;replace hz:w.heap.size < w2.heap.size:=Nat.lt_of_lt_of_le hz hb.size;replace HB:=ze_ HB hb;clear hb;cases hd:s.d
   focus
    rw [hd] at x3 HO2;go_wp2_with fail;refine Calls.mono (CX.out _) ?_;rintro e w3 ⟨rfl,hb⟩;replace k0:=za_ hb k0 hz;replace hz:w.heap.size < w3.heap.size:=Nat.lt_of_lt_of_le hz hb.size;replace HB:=ze_ HB hb;clear hb x0 x1 x2 x3
    have HM:Hid (out++(⟨#[124]⟩++⟨D.toArray⟩)++(⟨#[61]⟩++⟨Y.toArray⟩)=⟨(objT X (l.take (i+1))).toArray⟩):=by
     show _=_
     have e1:(⟨#[124]⟩:ByteArray)++⟨D.toArray⟩=⟨(124 :: D).toArray⟩:=ys_ [124] D;have e2:(⟨#[61]⟩:ByteArray)++⟨Y.toArray⟩=⟨(61 :: Y).toArray⟩:=ys_ [61] Y;rw [e1,e2,ByteArray.append_assoc,ys_];exact HO2.out _ (by simp)
   rotate_left
   focus
    rw [hd] at x3 HO2
    have HM:Hid (out++(⟨#[124]⟩++⟨D.toArray⟩)++⟨#[33]⟩=⟨(objT X (l.take (i+1))).toArray⟩):=by
     show _=_
     have e1:(⟨#[124]⟩:ByteArray)++⟨D.toArray⟩=⟨(124 :: D).toArray⟩:=ys_ [124] D;have e2:(⟨(124 :: D).toArray⟩:ByteArray)++⟨#[33]⟩=⟨(124 :: D++[33]).toArray⟩:=ys_ (124 :: D) [33];rw [e1,ByteArray.append_assoc,e2];exact HO2.out _ (by simp)
   rotate_left
   all_goals
    clear HO2;go_wp2
    go_roundw
    case rel=>first | exact ⟨i+1,_,by omega,by go_num,rfl,HM.out,HB.out,hz,k0⟩ | ((repeat apply Exists.intro); exact ⟨⟨i+1,_,by omega,by go_num,rfl,HM.out,HB.out,hz,k0⟩,rfl⟩)
    case measure=>simp [intOf]; omega
  ·have hkl':¬ (i:Int) < (l.length:Int):=by omega
   have HE:Hid (out=⟨(objT X l).toArray⟩):=by have:=HO.out; rw [List.take_of_length_le (by omega)] at this; exact this
   clear HO;go_wp2;go_ret;exact ⟨by rw [HE.out]; rfl,HB.out⟩
def V (ss:List ByteArray):List Value:=ss.map Value.string
def vp_ (X:List UInt8) (l:List Sib):List ByteArray:=⟨X.toArray⟩ :: l.map fun s=>⟨(sibT s).toArray⟩
theorem re_ (h:i < l.length):vp_ X (l.take (i+1))=vp_ X (l.take i)++[⟨(sibT l[i]).toArray⟩]:=by
 unfold vp_;rw [List.take_succ_eq_append_getElem h,List.map_append];rfl
theorem r2_ (X:List UInt8) (l:List Sib):(vp_ X l).length=l.length+1:=by simp [vp_]
theorem vP_ (X:List UInt8) (l:List Sib):Lib.join ((vp_ X l).map (·.data.toList)) (⟨#[124]⟩:ByteArray).data.toList=objT X l:=by
 unfold vp_ objT;rw [List.map_cons,Lib.join_cons]
 congr 1
 simp [Lib.joinTail,List.flatMap,Function.comp_def]
theorem rowN (h:w.ownsRow 0 9 1 v (n+1) xs):∃ g cap,v=.slice (some ⟨g,0,none⟩) (n+1) cap∧g < w.heap.size∧n+1<=cap∧∀ j u,xs[j]? = some u->w.cell? ((⟨g,0,none⟩:Addr).add j)=some u:=by
 have h0:=h;rcases h.2 with ⟨_,h'⟩ | ⟨g,cap,cur,rfl,hbg,hg,hnc,r⟩
 ·cases h'
 ·refine ⟨g,cap,rfl,?_,hnc,h0.cells (g:=g) rfl⟩;rcases Nat.lt_or_ge g w.heap.size with h' | h'
  ·exact h'
  ·rw [Array.getElem?_eq_none h'] at hg; cases hg
theorem os_ (W:World) (X:ByteArray):(W.alloc (.cells #[.string X] 9)).ownsRow 0 9 1 (.slice (some ⟨W.heap.size,0,none⟩) 1 1) 1 [.string X]:=
 ⟨rfl,.inr ⟨W.heap.size,1,#[.string X],rfl,Nat.zero_le _,heap_alloc_new W _,Nat.le_refl _,by unfold maxLen; omega,rfl,rfl⟩⟩
theorem t4_ (cap:Nat) (ao:Option Addr) (l:List Sib) (a b c:Int) (X:List UInt8) (w:World) (hX:X.length<=100000) (hO:OkP l a b c) (hr0:zk_ w ao l) (ht0:TB w)
  (CV:Hid (∀ W,TB W->Calls Tryz.prog 147 #[.agg #[.int .i64 a,.int .i64 b,.int .i64 c]] W fun e w'=>e=.returned (.string ⟨X.toArray⟩)∧Below W.heap.size W w')) :
  Calls Tryz.prog 98 #[.agg #[.slice ao l.length cap,.int .i64 a,.int .i64 b,.int .i64 c]] w fun e w'=>e=.returned (.tuple #[.string ⟨(objT X l).toArray⟩,.int .i64 0])∧Below w.heap.size w w':=by
 obtain ⟨i0,hi,hz0,hz1,hz2⟩:=info_parts xW_;have HI:Hid (Tryz.prog.info? 9=some i0∧i0.zero=some (.string ⟨#[]⟩)∧i0.size=1∧i0.bytes=16):=⟨hi,hz0,hz1,hz2⟩;clear hi hz0 hz1 hz2;have RA:Hid (zk_ w ao l):=hr0;have ht:Hid (TB w):=ht0;have hl:l.length<=100:=hO.1;have HK:Hid (∀ i (h:i < l.length),zW_ l[i].p l[i].n l[i].v l[i].d=true):=fun i h=>(hO.2.2 i h).1
 have HL:Hid (l.length<=100∧X.length<=100000):=⟨hl,hX⟩
 have HLEN:Hid ((objT X l).length<=1400000):=by
  have h1:=v9_ (X:=X) (l:=l) (fun t ht=>by obtain ⟨i,hi,rfl⟩:=List.getElem_of_mem ht; exact (hO.2.2 i hi).1);show _<=_
  omega
 have B0:Hid (Below w.heap.size w (w.alloc (.cells #[.slice ao l.length cap,.int .i64 a,.int .i64 b,.int .i64 c] 37))):=zb_ _ _;have COK:Hid (∀ W,zk_ W ao l->Calls Tryz.prog 51 #[.agg #[.slice ao l.length cap,.int .i64 a,.int .i64 b,.int .i64 c]] W fun e w'=>e=.returned (.bool true)∧Below W.heap.size W w'):=fun W h=>yJ_ cap ao l a b c true ⟨fun _=>hO,fun _=>rfl⟩ W (by omega) h
 clear hr0 ht0 hX hO;go_enter Tryz.func98,Tryz.ntmps98;go_wp2_with fail;refine Calls.mono (COK.out _ (RA.out.next B0.out)) ?_;rintro e w1 ⟨rfl,hb⟩;have c0:=za_ hb (b:=w.heap.size) (o:=0) (v:=.slice ao l.length cap) (by go_simp) (by simp);have c1:=za_ hb (b:=w.heap.size) (o:=1) (v:=.int .i64 a) (by go_simp) (by simp);have c2:=za_ hb (b:=w.heap.size) (o:=2) (v:=.int .i64 b) (by go_simp) (by simp);have c3:=za_ hb (b:=w.heap.size) (o:=3) (v:=.int .i64 c) (by go_simp) (by simp);replace B0:=ze_ B0 hb;have hz:w.heap.size < w1.heap.size:=Nat.lt_of_lt_of_le (by simp) hb.size;clear hb COK;go_wp2_with fail;refine Calls.mono (CV.out _ (ht.out.next B0.out)) ?_;rintro e w2 ⟨rfl,hb⟩;replace c0:=za_ hb c0 hz;replace B0:=ze_ B0 hb;replace hz:w.heap.size < w2.heap.size:=Nat.lt_of_lt_of_le hz hb.size;clear hb CV c1 c2 c3;have e0:∀ o,(w2.alloc o).cell? ⟨w.heap.size,0,none⟩=_:=fun o=>zj_ c0 hz
 have O1:Hid ((w2.alloc (.cells #[.string ⟨X.toArray⟩] 9)).ownsRow 0 9 1 (.slice (some ⟨w2.heap.size,0,none⟩) 1 1) 1 [.string ⟨X.toArray⟩]):=os_ w2 ⟨X.toArray⟩;have G1:Hid (Gro w (w2.alloc (.cells #[.string ⟨X.toArray⟩] 9)) (.slice none 0 0) (.slice (some ⟨w2.heap.size,0,none⟩) 1 1)):=⟨(Gro.of_below (v:=.slice none 0 0) (ze_ B0 (zb_ _ _)).out).grown,fun k hk=>.inr (by simp [Value.ownBlock] at hk; have:=B0.out.size; omega)⟩;go_wp2;clear e0 c0 B0;generalize (w2.alloc (.cells #[.string ⟨X.toArray⟩] 9))=W2 at *;generalize w2.heap.size=g2 at *;clear hz;go_loopw [4,17] (fun s4 s17 wr=>∃ (k:Nat) (ss:List ByteArray),k<=l.length∧s17=.int .i64 k∧ss=vp_ X (l.take k)∧Gro w wr (.slice none 0 0) s4∧wr.ownsRow 0 9 1 s4 (k+1) (V ss)) (fun _ s17 _=>l.length - (intOf s17).toNat)
 case atStart=>exact ⟨0,_,by omega,rfl,rfl,G1.out,O1.out⟩
 case round=>
  clear O1 G1;obtain ⟨k,ss,hkl0,rfl,hS0,hG0,hO0⟩:=hrel;have HS:=hm_ hS0;have HG:=hm_ hG0;have HO:=hm_ hO0;have HB:Hid (Below w.heap.size w wr):=xb_ hG0;clear hS0 hG0 hO0;by_cases hkl:k < l.length
  ·have hkl':(k:Int) < (l.length:Int):=by omega
   have kk:(0:Int)<=(k:Int):=by omega
   obtain ⟨s,hs⟩:∃ s,s=l[k]:=⟨_,rfl⟩;have HOK:Hid (zW_ s.p s.n s.v s.d=true):=by show _=_; rw [hs]; exact HK.out k hkl
   rcases RA.out with h' | ⟨p,off,rfl,h2⟩
   ·rw [h'] at hkl; simp at hkl
   obtain ⟨x0,x1,x2,x3⟩:=h2 k hkl;rw [<- hs] at x0 x1 x2 x3;replace x0:=za_ HB.out x0 (zh_ x0);replace x1:=za_ HB.out x1 (zh_ x1);replace x2:=za_ HB.out x2 (zh_ x2);replace x3:=za_ HB.out x3 (zh_ x3);have HS2:Hid (ss++[⟨(sibT s).toArray⟩]=vp_ X (l.take (k+1))):=by show _=_; rw [HS.out,re_ hkl,hs]
   clear h2 hs;go_wp2_with fail;refine (sibI s HOK.out _ (ht.out.next (ze_ HB (zb_ _ _)).out)).mono ?_;rintro e w3 ⟨rfl,hb⟩;have G3:Hid (Gro w w3 (.slice none 0 0) u4):=HG.out.trans ((Gro.of_below (zb_ _ _)).trans (Gro.of_below hb));have O3:Hid (w3.ownsRow 0 9 1 u4 (k+1) (V ss)):=zP_ (zP_ HO.out (zb_ _ _)) hb;clear hb x0 x1 x2 x3 HB;go_wp2_with (first | (at_builtin; refine zJ_ rfl _ _ 25 rfl 9 i0 (.string ⟨#[]⟩) 1 16 Tryz.underlying25 HI.out.1 HI.out.2.1 HI.out.2.2.1 HI.out.2.2.2 rfl (by decide) u4 _ _ rfl (O3.out.alloc _) ⟨w3.heap.size,0,none⟩ 1 1 [.string ⟨(sibT s).toArray⟩] rfl rfl xU_ (fun u hu=>by simp at hu; subst hu; rfl) (by unfold maxLen; omega) (by omega) ?_) | fail);intro v1 w4 ho hg;have O4:Hid (w4.ownsRow 0 9 1 v1 (k+1+1) (V (ss++[⟨(sibT s).toArray⟩]))):=y7_ ho rfl (by simp [V]);have G4:Hid (Gro w w4 (.slice none 0 0) v1):=G3.out.trans ((Gro.of_below (zb_ _ _)).trans hg);clear ho hg;go_wp2
   go_roundw
   case rel=>first | exact ⟨k+1,_,by omega,by go_num,HS2.out,G4.out,O4.out⟩ | ((repeat apply Exists.intro); exact ⟨⟨k+1,_,by omega,by go_num,HS2.out,G4.out,O4.out⟩,rfl⟩)
   case measure=>simp [intOf]; omega
  ·have hkl':¬ (k:Int) < (l.length:Int):=by omega
   have hkk:k=l.length:=by omega
   have HE:Hid (ss=vp_ X l):=by have:=HS.out; rw [List.take_of_length_le (by omega)] at this; exact this
   obtain ⟨g,cp,rfl,hgl,hcap,hcs⟩:=rowN HO.out
   have HCS:Hid (∀ (j:Nat) x,ss[j]? = some x->wr.cell? ⟨g,0+j,none⟩=some (.string x)):=fun j x hx=>by
    have h1:(V ss)[j]? = some (.string x):=by unfold V; rw [List.getElem?_map,hx]; rfl
    have h2:=hcs j (.string x) h1;cases j with
    | zero=>exact h2
    | succ j=>simpa [Addr.add] using h2
   have hsl:ss.length=k+1:=by rw [HE.out,r2_]; omega
   have JN:Hid (Calls Tryz.prog 149 #[.slice (some ⟨g,0,none⟩) (k+1) cp,.string ⟨#[124]⟩] wr fun e w'=>e=.returned (.string ⟨(objT X l).toArray⟩)∧Below wr.heap.size wr w'):=by
    have h1:=Any.strings_Join Tryz.lays156 Tryz.Builder_Extra_156 g 0 cp ss ⟨#[124]⟩ wr HCS.out hgl (by omega) (by omega) (by rw [HE.out,vP_]; have:=HLEN.out; omega);rw [hsl,HE.out,vP_] at h1;exact h1
   clear hgl hcap hcs HCS hsl HS HK HO hkk HE;go_wp2_with fail;refine Calls.mono JN.out ?_;rintro e w7 ⟨rfl,hb⟩;have HB7:Hid (Below w.heap.size w w7):=ze_ HB hb;clear hb;go_wp2;go_ret2;exact ⟨rfl,HB7.out⟩
def vvT (a b c:Int):List UInt8:=vj (dsN a.toNat) (dsN b.toNat) (dsN c.toNat)
theorem vZ_ {b:Int} (h:vvB a b c=true):(vvT a b c).length<=100000:=by
 have h0:=of_decide_eq_true h;have h1:=yb_ a.toNat;have h2:=yb_ b.toNat;have h3:=yb_ c.toNat;unfold vvT vj;simp;omega
theorem qN_ (h0:0<=a) (h1:a<=9999) (W:World):Calls Tryz.prog 83 #[.int .i64 a] W fun e w'=>e=.returned (.string ⟨(dsN a.toNat).toArray⟩)∧Below W.heap.size W w':=by
 have h:=yl_ (a.toNat+1) a.toNat (by omega) (by omega) W;rw [Int.toNat_of_nonneg h0] at h;exact h
theorem qA_ (h0:0<=a) (h1:a<=9999) (W:World) (ht:TB W):Calls Tryz.prog 144 #[.int .i64 a] W fun e w'=>e=.returned (.string ⟨(dsN a.toNat).toArray⟩)∧Below W.heap.size W w':=by
 have h:=xv_ a.toNat (by omega) W ht;rw [Int.toNat_of_nonneg h0] at h;exact h
theorem qH_ (h1:a<=9999):(dsN a.toNat).length<=20000:=by have:=yb_ a.toNat; omega
theorem vvS {b:Int} (h:vvB a b c=true) (W:World):Calls Tryz.prog 154 #[.agg #[.int .i64 a,.int .i64 b,.int .i64 c]] W fun e w'=>e=.returned (.string ⟨(vvT a b c).toArray⟩)∧Below W.heap.size W w':=by
 have h0:=of_decide_eq_true h;exact s7_ a b c _ _ _ W (qN_ h0.1.1 h0.1.2) (qN_ h0.2.1.1 h0.2.1.2) (qN_ h0.2.2.1 h0.2.2.2) (qH_ h0.1.2) (qH_ h0.2.1.2) (qH_ h0.2.2.2)
theorem vvI {b:Int} (h:vvB a b c=true) (W:World) (ht:TB W):Calls Tryz.prog 147 #[.agg #[.int .i64 a,.int .i64 b,.int .i64 c]] W fun e w'=>e=.returned (.string ⟨(vvT a b c).toArray⟩)∧Below W.heap.size W w':=by
 have h0:=of_decide_eq_true h;exact ro_ a b c _ _ _ W ht (qA_ h0.1.1 h0.1.2) (qA_ h0.2.1.1 h0.2.1.2) (qA_ h0.2.2.1 h0.2.2.2) (by show _<=_; have:=vZ_ h; unfold vvT at this; omega)
structure TRel (l:List Sib) (a b c:Int) (t:ByteArray) (code:Int):Prop where
 ok:OkP l a b c->t=⟨(objT (vvT a b c) l).toArray⟩∧code=0
 bad:¬ OkP l a b c->t=⟨#[]⟩∧code=1
theorem v7_ {b:Int} (h:OkP l a b c):∀ s ∈ l,zW_ s.p s.n s.v s.d=true:=fun s hs=>by
 obtain ⟨i,hi,rfl⟩:=List.getElem_of_mem hs;exact (h.2.2 i hi).1
theorem tg_ (cap:Nat) (ao:Option Addr) (l:List Sib) (a b c:Int) (t:ByteArray) (code:Int) (hT:Hid (TRel l a b c t code)) (w:World) (hm:(l.length:Int)<=1048576) (hr0:zk_ w ao l) (ht:TB w) :
  Calls Tryz.prog 98 #[.agg #[.slice ao l.length cap,.int .i64 a,.int .i64 b,.int .i64 c]] w fun e w'=>e=.returned (.tuple #[.string t,.int .i64 code])∧Below w.heap.size w w':=by
 by_cases hO:OkP l a b c
 ·obtain ⟨rfl,rfl⟩:=hT.out.ok hO;exact t4_ cap ao l a b c (vvT a b c) w (vZ_ hO.2.1) hO hr0 ht (vvI hO.2.1)
 ·obtain ⟨rfl,rfl⟩:=hT.out.bad hO;have RA:Hid (zk_ w ao l):=hr0;have B0:Hid (Below w.heap.size w (w.alloc (.cells #[.slice ao l.length cap,.int .i64 a,.int .i64 b,.int .i64 c] 37))):=zb_ _ _;have COK:Hid (∀ W,zk_ W ao l->Calls Tryz.prog 51 #[.agg #[.slice ao l.length cap,.int .i64 a,.int .i64 b,.int .i64 c]] W fun e w'=>e=.returned (.bool false)∧Below W.heap.size W w'):=fun W h=>yJ_ cap ao l a b c false ⟨fun h'=>(by cases h'),fun h'=>(hO h').elim⟩ W hm h
  clear hO hT hm hr0 ht;go_enter Tryz.func98,Tryz.ntmps98;go_wp2_with fail;refine Calls.mono (COK.out _ (RA.out.next B0.out)) ?_;rintro e w1 ⟨rfl,hb⟩;replace B0:=ze_ B0 hb;clear hb;go_wp2;go_ret2;exact ⟨rfl,B0.out⟩
end
section
variable {W W':World} {ao:Option Addr} {b cap:Nat} {ss:List ByteArray} {v:Value}
theorem q5_ (ss:List ByteArray):(V ss).length=ss.length:=by simp [V]
theorem nW_ (a b:List ByteArray):V (a++b)=V a++V b:=by simp [V]
theorem nd_ (ss:List ByteArray):∀ v ∈ V ss,v.oneCell'=true:=fun v hv=>by
 simp [V] at hv;obtain ⟨s,_,rfl⟩:=hv;rfl
theorem V_at (ss:List ByteArray) (i:Nat) (h:i < ss.length):(V ss)[i]? = some (.string ss[i]):=by simp [V,h]
def TRow (W:World) (ao:Option Addr) (ss:List ByteArray):Prop:=ss=[]∨∃ b off,ao=some ⟨b,off,none⟩∧∀ i (h:i < ss.length),W.cell? ⟨b,off+i,none⟩=some (.string ss[i])
theorem zs_ {o:Nat} (h:W.cell? ⟨b,o,none⟩=some v):b < W.heap.size:=by
 rcases Nat.lt_or_ge b W.heap.size with q | q
 ·exact q
 ·simp [World.cell?,Array.getElem?_eq_none q] at h
theorem TRow.next (h:TRow W ao ss) (hb:Below W.heap.size W W'):TRow W' ao ss:=by
 rcases h with h | ⟨b,off,rfl,h2⟩
 ·exact .inl h
 ·exact .inr ⟨b,off,rfl,fun i hi=>za_ hb (h2 i hi) (zs_ (h2 i hi))⟩
def RowV (W:World) (v:Value) (ss:List ByteArray):Prop:=∃ ao cap,v=.slice ao ss.length cap∧ss.length<=cap∧TRow W ao ss
theorem RowV.next (h:RowV W v ss) (hb:Below W.heap.size W W'):RowV W' v ss:=by
 obtain ⟨ao,cap,h1,h2,h3⟩:=h;exact ⟨ao,cap,h1,h2,h3.next hb⟩
theorem su_ {e:TypeId} (h:W.ownsRow 0 e 1 (.slice ao ss.length cap) ss.length (V ss)):TRow W ao ss:=by
 rcases h.2 with ⟨h',hn⟩ | ⟨g,cap',cur,h',_⟩
 ·exact .inl (List.length_eq_zero_iff.1 hn)
 ·cases h';refine .inr ⟨g,0,rfl,fun i hi=>?_⟩;rw [Nat.zero_add,h.cellAt i (by omega)];exact V_at ss i hi
theorem info_parts {i:Option TypeInfo} {z:Option Value} {a:Nat} (h:i.map (fun i=>(i.zero,i.size,i.bytes))=some (z,a,b)):∃ i0,i=some i0∧i0.zero=z∧i0.size=a∧i0.bytes=b:=by
 cases i with
 | none=>cases h
 | some i0=>simp at h; exact ⟨i0,rfl,h.1,h.2.1,h.2.2⟩
end
section
variable {b e g i lo lo' n off q:Nat} {l:List Sib} {p:Option Addr} {ss:List ByteArray} {u v:Value} {vs:List Value} {w w' w1 w2:World}
def Kept (lo:Nat) (w w':World):Prop:=∀ b,lo<=b->b < w.heap.size->w'.heap[b]? = w.heap[b]?
theorem Kept.refl (lo:Nat) (w:World):Kept lo w w:=fun _ _ _=>rfl
theorem zT_ (h:Below w.heap.size w w'):Kept lo w w':=fun b _ hb=>h.block b hb
theorem xf_ (h:w.grownBy w' (some g)) (hg:g < lo):Kept lo w w':=fun b hl hb=>h.block b hb (fun e=>by cases e; omega)
theorem zc_ (hq:q < lo):Kept lo w (w.setCell ⟨q,i,none⟩ u):=fun b hl hb=>Below.heap_setCell w ⟨q,i,none⟩ u b (by simp; omega)
theorem Kept.cell {o:Nat} (h:Kept lo w w') (hl:lo<=b) (hc:w.cell? ⟨b,o,none⟩=some v):w'.cell? ⟨b,o,none⟩=some v:=by
 rw [World.cell?_of_block (w:=w) (h b hl (zh_ (x:=⟨b,o,none⟩) hc))];exact hc
theorem Kept.trans (h:Kept lo w w1) (k:Kept lo w1 w2) (hs:w.heap.size<=w1.heap.size):Kept lo w w2:=fun b hl hb=>(k b hl (by omega)).trans (h b hl hb)
def GRow (lo:Nat) (w:World) (p:Option Addr) (vs:List Value):Prop:=vs=[]∨∃ b off,p=some ⟨b,off,none⟩∧lo<=b∧∀ j (h:j < vs.length),w.cell? ⟨b,off+j,none⟩=some vs[j]
theorem GRow.keep (h:GRow lo w p vs) (hk:Kept lo w w'):GRow lo w' p vs:=by
 rcases h with h | ⟨b,off,h1,h2,h3⟩
 ·exact .inl h
 ·exact .inr ⟨b,off,h1,h2,fun j hj=>hk.cell h2 (h3 j hj)⟩
theorem GRow.next (h:GRow lo w p vs) (hb:Below w.heap.size w w'):GRow lo w' p vs:=h.keep (zT_ hb)
theorem GRow.weak (h:GRow lo w p vs) (hl:lo'<=lo):GRow lo' w p vs:=by
 rcases h with h | ⟨b,off,h1,h2,h3⟩
 ·exact .inl h
 ·exact .inr ⟨b,off,h1,Nat.le_trans hl h2,h3⟩
theorem GRow.lt {lo:Nat} (h:∀ j (h:j < vs.length),w.cell? ⟨b,off+j,none⟩=some vs[j]) (hn:vs≠[]):b < w.heap.size:=zh_ (x:=⟨b,off+0,none⟩) (h 0 (List.length_pos_iff.2 hn))
theorem yi_ {size:Nat} (h:w.ownsRow 0 e size v n vs) (hl:∀ k,v.ownBlock=some k->lo<=k):∃ p c,v=.slice p n c∧n<=c∧GRow lo w p vs:=by
 have hq:=h;rcases h.2 with ⟨rfl,hn⟩ | ⟨g,cap,cur,rfl,_,hh,hc,hx⟩
 ·refine ⟨none,0,by rw [hn],by omega,.inl ?_⟩
  have:=h.1
  rw [hn] at this
  simpa using this
 ·refine ⟨_,_,rfl,hc,.inr ⟨g,0,rfl,hl g rfl,fun j hj=>?_⟩⟩;have hj2:=hj;rw [h.1] at hj2;rw [Nat.zero_add,hq.cellAt j hj2,List.getElem?_eq_getElem hj]
theorem GRow.at {lo:Nat} (h:∀ j (h:j < vs.length),w.cell? ⟨b,off+j,none⟩=some vs[j]) {i:Nat} {v:Value} (hv:vs[i]? = some v):w.cell? ⟨b,off+i,none⟩=some v:=by
 obtain ⟨hi,e⟩:=List.getElem?_eq_some_iff.1 hv;rw [h i hi,e]
theorem GRow.sib (h:GRow lo w p (flat l)):zk_ w p l:=by
 rcases h with h | ⟨b,off,h1,h2,h3⟩
 ·cases l with
  | nil=>exact .inl rfl
  | cons s l=>simp [flat] at h
 ·refine .inr ⟨b,off,h1,fun i hi=>?_⟩;obtain ⟨f0,f1,f2,f3⟩:=sc_ l i hi;exact ⟨GRow.at (lo:=lo) h3 f0,by rw [Nat.add_assoc]; exact GRow.at (lo:=lo) h3 f1,by rw [Nat.add_assoc]; exact GRow.at (lo:=lo) h3 f2,by rw [Nat.add_assoc]; exact GRow.at (lo:=lo) h3 f3⟩
theorem GRow.txt (h:GRow lo w p (V ss)):TRow w p ss:=by
 rcases h with h | ⟨b,off,h1,h2,h3⟩
 ·exact .inl (by simpa [V] using h)
 ·exact .inr ⟨b,off,h1,fun i hi=>GRow.at (lo:=lo) h3 (V_at ss i hi)⟩
structure Cm where
 c:Cl
 p:Option Addr
 q:Nat
def zp_:List Cm->List Value
 | []=>[]
 | m :: ms=>.string m.c.k :: .slice m.p m.c.l.length m.q :: .int .i64 m.c.a :: .int .i64 m.c.b :: .int .i64 m.c.c :: zp_ ms
def zl_:List En->List Value
 | []=>[]
 | m :: ms=>.int .i64 m.p :: .int .i64 m.n :: .string m.k :: zl_ ms
theorem yP_ (l:List Cm):(zp_ l).length=l.length * 5:=by
 induction l with
 | nil=>rfl
 | cons s l ih=>simp [zp_,ih]; omega
theorem zO_ (l:List En):(zl_ l).length=l.length * 3:=by
 induction l with
 | nil=>rfl
 | cons s l ih=>simp [zl_,ih]; omega
theorem yQ_ (a b:List Cm):zp_ (a++b)=zp_ a++zp_ b:=by
 induction a with
 | nil=>rfl
 | cons s l ih=>simp [zp_,ih]
theorem z9_ (a b:List En):zl_ (a++b)=zl_ a++zl_ b:=by
 induction a with
 | nil=>rfl
 | cons s l ih=>simp [zl_,ih]
theorem sT_:∀ (l:List Cm) (i:Nat) (h:i < l.length),(zp_ l)[i * 5]? = some (.string l[i].c.k)∧(zp_ l)[i * 5+1]? = some (.slice l[i].p l[i].c.l.length l[i].q)∧(zp_ l)[i * 5+2]? = some (.int .i64 l[i].c.a)∧(zp_ l)[i * 5+3]? = some (.int .i64 l[i].c.b)∧(zp_ l)[i * 5+4]? = some (.int .i64 l[i].c.c)
 | m :: l,0,_=>by simp [zp_]
 | m :: l,i+1,h=>by
  have ih:=sT_ l i (by simpa using h)
  have e:∀ k,(zp_ (m :: l))[(i+1) * 5+k]? = (zp_ l)[i * 5+k]?:=fun k=>by
   rw [show (i+1) * 5+k=(i * 5+k)+5 by omega];rfl
  have e0:=e 0;simp only [Nat.add_zero] at e0;rw [e0,e 1,e 2,e 3,e 4]
  simpa using ih
theorem sS_:∀ (l:List En) (i:Nat) (h:i < l.length),(zl_ l)[i * 3]? = some (.int .i64 l[i].p)∧(zl_ l)[i * 3+1]? = some (.int .i64 l[i].n)∧(zl_ l)[i * 3+2]? = some (.string l[i].k)
 | m :: l,0,_=>by simp [zl_]
 | m :: l,i+1,h=>by
  have ih:=sS_ l i (by simpa using h)
  have e:∀ k,(zl_ (m :: l))[(i+1) * 3+k]? = (zl_ l)[i * 3+k]?:=fun k=>by
   rw [show (i+1) * 3+k=(i * 3+k)+3 by omega];rfl
  have e0:=e 0;simp only [Nat.add_zero] at e0;rw [e0,e 1,e 2]
  simpa using ih
def CmAt (w:World) (b o:Nat) (m:Cm):Prop:=w.cell? ⟨b,o,none⟩=some (.string m.c.k)∧w.cell? ⟨b,o+1,none⟩=some (.slice m.p m.c.l.length m.q)∧w.cell? ⟨b,o+2,none⟩=some (.int .i64 m.c.a)∧w.cell? ⟨b,o+3,none⟩=some (.int .i64 m.c.b)∧w.cell? ⟨b,o+4,none⟩=some (.int .i64 m.c.c)
def EnAt (w:World) (b o:Nat) (m:En):Prop:=w.cell? ⟨b,o,none⟩=some (.int .i64 m.p)∧w.cell? ⟨b,o+1,none⟩=some (.int .i64 m.n)∧w.cell? ⟨b,o+2,none⟩=some (.string m.k)
theorem GRow.cm {ms:List Cm} (h:GRow lo w p (zp_ ms)):ms=[]∨∃ b off,p=some ⟨b,off,none⟩∧lo<=b∧∀ i (h:i < ms.length),CmAt w b (off+i * 5) ms[i]:=by
 rcases h with h | ⟨b,off,h1,h2,h3⟩
 ·cases ms with
  | nil=>exact .inl rfl
  | cons s l=>simp [zp_] at h
 ·refine .inr ⟨b,off,h1,h2,fun i hi=>?_⟩;obtain ⟨f0,f1,f2,f3,f4⟩:=sT_ ms i hi;exact ⟨GRow.at (lo:=lo) h3 f0,by rw [Nat.add_assoc]; exact GRow.at (lo:=lo) h3 f1,by rw [Nat.add_assoc]; exact GRow.at (lo:=lo) h3 f2,by rw [Nat.add_assoc]; exact GRow.at (lo:=lo) h3 f3,by rw [Nat.add_assoc]; exact GRow.at (lo:=lo) h3 f4⟩
theorem GRow.en {ms:List En} (h:GRow lo w p (zl_ ms)):ms=[]∨∃ b off,p=some ⟨b,off,none⟩∧lo<=b∧∀ i (h:i < ms.length),EnAt w b (off+i * 3) ms[i]:=by
 rcases h with h | ⟨b,off,h1,h2,h3⟩
 ·cases ms with
  | nil=>exact .inl rfl
  | cons s l=>simp [zl_] at h
 ·refine .inr ⟨b,off,h1,h2,fun i hi=>?_⟩;obtain ⟨f0,f1,f2⟩:=sS_ ms i hi;exact ⟨GRow.at (lo:=lo) h3 f0,by rw [Nat.add_assoc]; exact GRow.at (lo:=lo) h3 f1,by rw [Nat.add_assoc]; exact GRow.at (lo:=lo) h3 f2⟩
structure No where
 x:Nd
 ms:List Cm
 p0:Option Addr
 c0:Nat
 p1:Option Addr
 c1:Nat
 p2:Option Addr
 c2:Nat
 p3:Option Addr
 c3:Nat
 su:List ByteArray
 un:List ByteArray
variable {o:No}
abbrev nL (o:No):List Value:=[.int .i64 o.x.id,.int .i64 o.x.n,.int .i64 o.x.cut,.slice o.p0 o.ms.length o.c0,.slice o.p1 o.x.fd.length o.c1,.slice o.p2 o.su.length o.c2,.slice o.p3 o.un.length o.c3]
abbrev nV (o:No):Value:=.agg #[.int .i64 o.x.id,.int .i64 o.x.n,.int .i64 o.x.cut,.slice o.p0 o.ms.length o.c0,.slice o.p1 o.x.fd.length o.c1,.slice o.p2 o.su.length o.c2,.slice o.p3 o.un.length o.c3]
abbrev nZ:List Value:=[.int .i64 0,.int .i64 0,.int .i64 0,.slice none 0 0,.slice none 0 0,.slice none 0 0,.slice none 0 0]
abbrev o7 (x:World) (g:Nat) (u:No):World:=(((((((x.setCell ⟨g,0,none⟩ (.int .i64 u.x.id)).setCell ⟨g,1,none⟩ (.int .i64 u.x.n)).setCell ⟨g,2,none⟩ (.int .i64 u.x.cut)).setCell ⟨g,3,none⟩ (.slice u.p0 u.ms.length u.c0)).setCell ⟨g,4,none⟩ (.slice u.p1 u.x.fd.length u.c1)).setCell ⟨g,5,none⟩ (.slice u.p2 u.su.length u.c2)).setCell ⟨g,6,none⟩ (.slice u.p3 u.un.length u.c3))
structure NoR (lo:Nat) (w:World) (o:No):Prop where
 cs:o.x.cs=o.ms.map (·.c)
 r0:GRow lo w o.p0 (zp_ o.ms)
 r1:GRow lo w o.p1 (zl_ o.x.fd)
 r2:GRow lo w o.p2 (V o.su)
 r3:GRow lo w o.p3 (V o.un)
 rs:∀ m ∈ o.ms,GRow lo w m.p (flat m.c.l)∧m.c.l.length<=m.q
 le:o.ms.length<=o.c0∧o.x.fd.length<=o.c1∧o.su.length<=o.c2∧o.un.length<=o.c3
theorem NoR.keep (h:NoR lo w o) (hk:Kept lo w w'):NoR lo w' o:=
 ⟨h.cs,h.r0.keep hk,h.r1.keep hk,h.r2.keep hk,h.r3.keep hk,fun m hm=>⟨(h.rs m hm).1.keep hk,(h.rs m hm).2⟩,h.le⟩
theorem NoR.next (h:NoR lo w o) (hb:Below w.heap.size w w'):NoR lo w' o:=h.keep (zT_ hb)
theorem NoR.weak (h:NoR lo w o) (hl:lo'<=lo):NoR lo' w o:=
 ⟨h.cs,h.r0.weak hl,h.r1.weak hl,h.r2.weak hl,h.r3.weak hl,fun m hm=>⟨(h.rs m hm).1.weak hl,(h.rs m hm).2⟩,h.le⟩
theorem NoR.row (h:NoR lo w o):RowV w (.slice o.p2 o.su.length o.c2) o.su∧RowV w (.slice o.p3 o.un.length o.c3) o.un:=⟨⟨_,_,rfl,h.le.2.2.1,h.r2.txt⟩,⟨_,_,rfl,h.le.2.2.2,h.r3.txt⟩⟩
def setM (x:Cm):List Cm->List Cm
 | []=>[x]
 | y :: ys=>if kb y.c.k < kb x.c.k then y :: setM x ys else if y.c.k=x.c.k then x :: ys else x :: y :: ys
theorem xn_ (x:Cm):∀ ms:List Cm,(setM x ms).map (·.c)=setC x.c (ms.map (·.c))
 | []=>rfl
 | y :: ys=>by
  unfold setM;simp only [List.map_cons,setC];split
  ·simp [xn_ x ys]
  ·split <;> simp
theorem yd_:∀ {cs:List Cm} {x c:Cm},c ∈ setM x cs->c=x∨c ∈ cs
 | [],x,c,h=>by simp [setM] at h; exact .inl h
 | y :: ys,x,c,h=>by
  unfold setM at h;split at h
  ·rcases List.mem_cons.1 h with rfl | h
   ·exact .inr (List.mem_cons_self ..)
   ·rcases yd_ h with h | h
    ·exact .inl h
    ·exact .inr (List.mem_cons_of_mem _ h)
  ·split at h
   ·rcases List.mem_cons.1 h with h | h
    ·exact .inl h
    ·exact .inr (List.mem_cons_of_mem _ h)
   ·rcases List.mem_cons.1 h with h | h
    ·exact .inl h
    ·exact .inr h
theorem tE_:∀ (cs:List Cm) (x:Cm) (i:Nat) (hi:i<=cs.length),(∀ j (h:j < cs.length),j < i->kb cs[j].c.k < kb x.c.k)->(∀ h:i < cs.length,¬ kb cs[i].c.k < kb x.c.k) ->
  ((∃ h:i < cs.length,cs[i].c.k=x.c.k)->setM x cs=cs.take i++x :: cs.drop (i+1))∧((∀ h:i < cs.length,cs[i].c.k≠x.c.k)->setM x cs=cs.take i++x :: cs.drop i)
 | [],x,i,hi,_,_=>⟨fun ⟨h,_⟩=>by simp at h,fun _=>by simp [setM]⟩
 | y :: ys,x,0,hi,_,h2=>by
  have h3:=h2 (by simp);simp only [List.getElem_cons_zero] at h3;refine ⟨fun ⟨h,e⟩=>?_,fun e=>?_⟩
  ·simp only [List.getElem_cons_zero] at e;simp [setM,e];intro h4; rw [e] at h3; exact absurd h4 h3
  ·have e:=e (by simp);simp only [List.getElem_cons_zero] at e;simp [setM,h3,e]
 | y :: ys,x,i+1,hi,h1,h2=>by
  have h0:=h1 0 (by simp) (by omega);simp only [List.getElem_cons_zero] at h0
  have ih:=tE_ ys x i (by simpa using hi) (fun j h hj=>by
   have:=h1 (j+1) (by simpa using h) (by omega)
   simpa using this) (fun h=>by
   have:=h2 (by simpa using h)
   simpa using this)
  refine ⟨fun ⟨h,e⟩=>?_,fun e=>?_⟩
  ·simp only [setM,if_pos h0,List.take_succ_cons,List.drop_succ_cons,List.cons_append];rw [ih.1 ⟨by simpa using h,by simpa using e⟩]
  ·simp only [setM,if_pos h0,List.take_succ_cons,List.drop_succ_cons,List.cons_append];rw [ih.2 (fun h=>by have:=e (by simpa using h); simpa using this)]
def getM (k:ByteArray):List Cm->Option Cm
 | []=>none
 | y :: ys=>if y.c.k=k then some y else getM k ys
theorem xX_ (k:ByteArray):∀ ms:List Cm,(getM k ms).map (·.c)=getC k (ms.map (·.c))
 | []=>rfl
 | y :: ys=>by
  unfold getM;simp only [List.map_cons,getC];split
  ·rfl
  ·exact xX_ k ys
theorem sb_:∀ (cs:List Cm) (k:ByteArray) (i:Nat),(∀ j (h:j < cs.length),j < i->cs[j].c.k≠k)->getM k cs=getM k (cs.drop i)
 | cs,k,0,_=>by simp
 | [],k,i+1,_=>by simp
 | y :: ys,k,i+1,h=>by
  have h0:=h 0 (by simp) (by omega);simp only [List.getElem_cons_zero] at h0;simp only [getM,if_neg h0,List.drop_succ_cons]
  exact sb_ ys k i fun j hj hji=>by
   have:=h (j+1) (by simpa using hj) (by omega)
   simpa using this
end
section
variable {i lo q:Nat} {o:No} {p:Option Addr} {w w':World}
theorem te (a b:ByteArray):(a.toList == b.toList)=decide (a=b):=by
 by_cases h:a=b
 ·subst h; simp
 ·rw [decide_eq_false h];apply beq_false_of_ne;intro e;exact h (qy_ (by rw [Lib.toList_data,Lib.toList_data] at e; exact e))
theorem ni_ {a b:ByteArray} (h:a≠b):(a.toList == b.toList)=false:=by rw [te]; exact decide_eq_false h
theorem pX_ {a b:ByteArray} (h:a=b):(a.toList == b.toList)=true:=by rw [te]; exact decide_eq_true h
def se_ (ms:List Cm) (k:ByteArray) (i:Int):Prop:=(getM k ms=none∧i = -1)∨∃ (j:Nat) (h:j < ms.length),i=j∧ms[j].c.k=k∧getM k ms=some ms[j]
theorem pK_ {ms:List Cm} {k:ByteArray} (h:∀ j (h:j < ms.length),j < ms.length->ms[j].c.k≠k):getM k ms=none:=by
 rw [sb_ ms k ms.length h];simp [getM]
theorem pJ_ {ms:List Cm} {k:ByteArray} (hi:i < ms.length) (h:∀ j (h:j < ms.length),j < i->ms[j].c.k≠k) (e:ms[i].c.k=k):getM k ms=some ms[i]:=by
 rw [sb_ ms k i h,List.drop_eq_getElem_cons hi];simp [getM,e]
theorem wr_ (lo:Nat) (o:No) (k:ByteArray) (w:World) (hm:o.ms.length<=100000) (h0:NoR lo w o) :
  Calls Tryz.prog 153 #[nV o,.string k] w fun e w'=>∃ i:Int,e=.returned (.int .i64 i)∧Hid (se_ o.ms k i)∧Below w.heap.size w w':=by
 (try unfold nV);have h:Hid (NoR lo w o):=h0;clear h0;go_enter Tryz.func153,Tryz.ntmps153;go_wp2;go_loopw [5] (fun s5 wr=>∃ i:Nat,i<=o.ms.length∧s5=.int .i64 i∧Below w.heap.size w wr∧(∀ j (h:j < o.ms.length),j < i->o.ms[j].c.k≠k)∧w.heap.size < wr.heap.size∧wr.cell? ⟨w.heap.size,3,none⟩=some (.slice o.p0 o.ms.length o.c0)) (fun s5 _=>o.ms.length - (intOf s5).toNat)
 case atStart=>exact ⟨0,by omega,rfl,zb_ _ _,fun i h h'=>by omega,by simp,by go_simp⟩
 case round=>
  obtain ⟨i,hi,rfl,hB0,hG0,hz,C0⟩:=hrel;have hB:=hm_ hB0;have hG:=hm_ hG0;clear hB0 hG0;have kk:(0:Int)<=(i:Int):=by omega
  by_cases hil:i < o.ms.length
  ·have hil':(i:Int) < (o.ms.length:Int):=by omega
   rcases (h.out.r0.next hB.out).cm with h' | ⟨q,off,hp,_,h2⟩
   ·rw [h'] at hil; simp at hil
   obtain ⟨x0,x1,x2,x3,x4⟩:=h2 i hil;clear h2 x1 x2 x3 x4;rw [hp] at C0;by_cases e:o.ms[i].c.k=k
   ·have E:=pX_ e;have HF:Hid (se_ o.ms k (i:Int)):=.inr ⟨i,hil,rfl,e,pJ_ hil hG.out e⟩;clear e;go_wp2;go_ret;exact ⟨_,by first | rfl | simp,HF,by first | exact hB.out | (repeat (first | exact Below.refl _ _ | refine Below.drew ?_ | refine below_drewN ?_ _ | refine Below.alloc ?_ (by first | (simp; done) | (simp; omega)) _ | refine Below.setCell ?_ (by first | (simp; done) | (simp; omega)) _); exact hB.out)⟩
   ·have E:=ni_ e
    have hG1:Hid (∀ j (h:j < o.ms.length),j < i+1->o.ms[j].c.k≠k):=fun j h h3=>by
     by_cases e2:j=i
     ·subst e2; exact e
     ·exact hG.out j h (by omega)
    clear e;go_wp2
    go_roundw
    case rel=>exact ⟨i+1,by omega,by go_num,by first | exact hB.out | (repeat (first | exact Below.refl _ _ | refine Below.drew ?_ | refine below_drewN ?_ _ | refine Below.alloc ?_ (by first | (simp; done) | (simp; omega)) _ | refine Below.setCell ?_ (by first | (simp; done) | (simp; omega)) _); exact hB.out),hG1.out,by first | exact hz | (simp; exact hz),by rw [hp]; first | exact C0 | go_simp⟩
    case measure=>simp [intOf]; omega
  ·have hil':¬ (i:Int) < (o.ms.length:Int):=by omega
   have HF:Hid (se_ o.ms k (-1)):=.inl ⟨pK_ (fun j h h'=>hG.out j h (by omega)),rfl⟩;go_wp2;go_ret;exact ⟨_,by first | rfl | simp,HF,by first | exact hB.out | (repeat (first | exact Below.refl _ _ | refine Below.drew ?_ | refine below_drewN ?_ _ | refine Below.alloc ?_ (by first | (simp; done) | (simp; omega)) _ | refine Below.setCell ?_ (by first | (simp; done) | (simp; omega)) _); exact hB.out)⟩
def ObjP (lo:Nat) (w:World) (o:No) (k:ByteArray) (e:Ending) (w':World):Prop:=∃ p q,e=.returned (.agg #[.slice p (atC k o.x.cs).l.length q,.int .i64 (atC k o.x.cs).a,.int .i64 (atC k o.x.cs).b,.int .i64 (atC k o.x.cs).c])∧GRow lo w' p (flat (atC k o.x.cs).l)∧(atC k o.x.cs).l.length<=q∧Below w.heap.size w w'
theorem q2_ {k:ByteArray} {m:Cm} (h:NoR lo w o) (hg:getM k o.ms=some m):atC k o.x.cs=m.c:=by
 have e:=xX_ k o.ms;rw [hg,<- h.cs] at e;unfold atC;rw [<- e];rfl
theorem od_ {k:ByteArray} (h:NoR lo w o) (hg:getM k o.ms=none):atC k o.x.cs=⟨k,[],0,0,0⟩:=by
 have e:=xX_ k o.ms;rw [hg,<- h.cs] at e;unfold atC;rw [<- e];rfl
theorem qa_ {k:ByteArray} {c:Cl} (hA:atC k o.x.cs=c) (hr:GRow lo w p (flat c.l)) (hq:c.l.length<=q) (hB:Below w.heap.size w w'):ObjP lo w o k (.returned (.agg #[.slice p c.l.length q,.int .i64 c.a,.int .i64 c.b,.int .i64 c.c])) w':=by
 subst hA;exact ⟨p,q,rfl,hr.next hB,hq,hB⟩
theorem xR_ (lo:Nat) (o:No) (k:ByteArray) (w:World) (hm:o.ms.length<=100000) (h0:NoR lo w o) :
  Calls Tryz.prog 102 #[nV o,.string k] w fun e w'=>ObjP lo w o k e w':=by
 (try unfold nV);have h:Hid (NoR lo w o):=h0;have CF:Hid (∀ W,NoR lo W o->Calls Tryz.prog 153 #[nV o,.string k] W fun e w'=>∃ i:Int,e=.returned (.int .i64 i)∧Hid (se_ o.ms k i)∧Below W.heap.size W w'):=fun W hW=>wr_ lo o k W hm hW
 clear h0;go_enter Tryz.func102,Tryz.ntmps102;go_wp2_with fail;go_at_call 153;refine (CF.out _ ?_).mono ?_
 ·exact h.out.next (((zb_ _ _).trans ((zb_ _ _).mono (by simp))))
 rintro e w1 ⟨i,rfl,hF,hb0⟩;have hB:Hid (Below w.heap.size w w1):=((zb_ _ _).trans ((zb_ _ _).mono (by simp))).trans (hb0.mono (by simp; omega));have c3:w1.cell? ⟨w.heap.size,3,none⟩=some (.slice o.p0 o.ms.length o.c0):=za_ hb0 (by go_simp) (by simp; omega);have d0:∃ v,w1.cell? ⟨w.heap.size+1,0,none⟩=some v:=⟨_,za_ hb0 (by go_simp; rfl) (by simp)⟩;have d1:∃ v,w1.cell? ⟨w.heap.size+1,1,none⟩=some v:=⟨_,za_ hb0 (by go_simp; rfl) (by simp)⟩;have d2:∃ v,w1.cell? ⟨w.heap.size+1,2,none⟩=some v:=⟨_,za_ hb0 (by go_simp; rfl) (by simp)⟩;have d3:∃ v,w1.cell? ⟨w.heap.size+1,3,none⟩=some v:=⟨_,za_ hb0 (by go_simp; rfl) (by simp)⟩;have f0:w1.frozen? ⟨w.heap.size+1,0,none⟩=false:=zf_ hb0 (by go_simp) (by simp);have f1:w1.frozen? ⟨w.heap.size+1,1,none⟩=false:=zf_ hb0 (by go_simp) (by simp);have f2:w1.frozen? ⟨w.heap.size+1,2,none⟩=false:=zf_ hb0 (by go_simp) (by simp);have f3:w1.frozen? ⟨w.heap.size+1,3,none⟩=false:=zf_ hb0 (by go_simp) (by simp);have hz:w.heap.size+1 < w1.heap.size:=Nat.lt_of_lt_of_le (by simp) hb0.size;clear hb0;obtain ⟨y0,d0⟩:=d0;obtain ⟨y1,d1⟩:=d1;obtain ⟨y2,d2⟩:=d2;obtain ⟨y3,d3⟩:=d3;rcases hF.out with ⟨hn,rfl⟩ | ⟨j,hj,rfl,hk,hg⟩
 focus
  have HA:Hid (atC k o.x.cs=⟨k,[],0,0,0⟩):=od_ h.out hn;have q1:((-1:Int)) < 0:=by omega
  clear hF;go_wp2;refine bodyPost_ret (v:=.agg #[.slice (some ⟨w1.heap.size,0,none⟩) 0 0,.int .i64 0,.int .i64 0,.int .i64 0]) (by simp [results,Tryz.results102,go_sem, *]) rfl ?_;refine qa_ (c:=⟨k,[],0,0,0⟩) HA.out (.inl rfl) (Nat.le_refl _) ?_
 rotate_left
 focus
  rcases (h.out.r0.next hB.out).cm with h' | ⟨q,off,hp,_,h2⟩
  ·rw [h'] at hj; simp at hj
  obtain ⟨x0,x1,x2,x3,x4⟩:=h2 j hj;have HA:Hid (atC k o.x.cs=o.ms[j].c):=q2_ h.out hg;have hj':(j:Int) < (o.ms.length:Int):=by omega
  have kk:¬ (j:Int) < 0:=by omega
  rw [hp] at c3;clear h2 hF hk hg x0;go_wp2;refine bodyPost_ret (v:=.agg #[.slice o.ms[j].p o.ms[j].c.l.length o.ms[j].q,.int .i64 o.ms[j].c.a,.int .i64 o.ms[j].c.b,.int .i64 o.ms[j].c.c]) (by simp [results,Tryz.results102,go_sem, *]) rfl ?_;refine qa_ HA.out (h.out.rs _ (List.getElem_mem hj)).1 (h.out.rs _ (List.getElem_mem hj)).2 ?_
 rotate_left
 all_goals
  repeat (first | exact Below.refl _ _ | refine Below.drew ?_ | refine below_drewN ?_ _ | refine Below.alloc ?_ (by first | (simp; done) | (simp; omega)) _ | refine Below.setCell ?_ (by first | (simp; done) | (simp; omega)) _)
  exact hB.out
end
end Go.Proofs.YtijcjhcgpmnchaaGreatDoor
