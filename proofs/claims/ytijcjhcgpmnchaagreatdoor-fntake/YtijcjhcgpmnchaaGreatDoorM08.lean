/- Nodes, part 8 of the law FnTake. -/
import Derived.Test.YtijcjhcgpmnchaaGreatDoorM06
import Derived.Maps.AppendAt
import Derived.Deep.AppendLies
import Derived.OpenShut
namespace Go.Proofs.YtijcjhcgpmnchaaGreatDoor
open Go.RowKit
set_option maxRecDepth 100000
set_option maxHeartbeats 16000000
set_option linter.unusedSimpArgs false
set_option linter.unusedVariables false
section
variable {W w w1:World} {ao:Option Addr} {cap g:Nat} {zs:List Int}
theorem yo_ (W:World) (b j:Nat) (v:Value):W.grownBy (W.setCell ⟨b,j,none⟩ v) (some b):=
 ⟨rfl,rfl,rfl,by simp [World.setCell],fun k _ hne=>Below.heap_setCell W ⟨b,j,none⟩ v k (fun e=>hne (by rw [e]))⟩
theorem yN_ (W:World) (row:Option Nat) (n:Nat):W.grownBy (W.drewN n) row:=⟨rfl,rfl,rfl,Nat.le_refl _,fun _ _ _=>rfl⟩
theorem zm_ (hg:W.grownBy w1 (some g)) {b o:Nat} {v:Value} (h:W.cell? ⟨b,o,none⟩=some v) (hne:b≠g):w1.cell? ⟨b,o,none⟩=some v:=hg.cell h (fun e=>hne (by cases e; rfl))
theorem xN_ (hg:W.grownBy w1 (some g)) {b o:Nat} (h:W.frozen? ⟨b,o,none⟩=false) (hlt:b < W.heap.size) (hne:b≠g):w1.frozen? ⟨b,o,none⟩=false:=by
 rw [hg.frozen_far ⟨b,o,none⟩ hlt (fun e=>hne (by cases e; rfl))]; exact h
def Gen.IsRow (k:IntKind) (w:World) (a:Option Addr) (len cap:Nat) (zs:List Int):Prop:=
 (a=none∧len=0∧cap=0∧zs=[]) ∨
 ∃ x,a=some x∧len<=cap∧cap<=maxLen∧zs.length=cap∧(∀ i,i < zs.length->w.cell? (x.add i)=some (.int k (zs.getD i 0)))∧∀ n ∈ zs,(Lit.int k n).wf=true
theorem tu_ (x:Addr) (i:Nat):(x.add i).block=x.block:=by unfold Addr.add; split <;> rfl
theorem s3_ (b off i:Nat):(⟨b,off,none⟩:Addr).add i=⟨b,off+i,none⟩:=by
 unfold Addr.add;by_cases h:i=0 <;> simp [h]
theorem yK_ {a b c:World} {row row':Option Nat} (h:a.grownBy b row) (k:b.grownBy c row') (hr:∀ j,row'=some j->a.heap.size<=j∨row=some j):a.grownBy c row:=by
 refine ⟨k.os.trans h.os,k.tape.trans h.tape,k.output.trans h.output,Nat.le_trans h.size k.size,fun i hi hne=>?_⟩;rw [k.block i (Nat.lt_of_lt_of_le hi h.size) (fun e=>?_),h.block i hi hne];rcases hr i e.symm with q | q
 ·omega
 ·exact hne q.symm
theorem vh_ {a b:World} {B:Nat} (h:a.grownBy b (some g)) (hB:B<=a.heap.size) (hg:B<=g):Below B a b:=
 (Below.refl _ _).grown h hB (fun k e=>by cases e; exact hg)
theorem ss_ {len:Nat} (hr:Gen.IsRow .u8 w ao len cap zs) (hc:∀ x i v,ao=some x->0 < cap->w.cell? (x.add i)=some v->w1.cell? (x.add i)=some v):Gen.IsRow .u8 w1 ao len cap zs:=by
 rcases hr with h | ⟨x,hx,h1,h2,h3,h4,h5⟩
 ·exact Or.inl h
 ·exact Or.inr ⟨x,hx,h1,h2,h3,fun i hi=>hc x i _ hx (by omega) (h4 i hi),h5⟩
theorem xI_ {len:Nat} (hr:Gen.IsRow .u8 w ao len cap zs) (hn:∀ x,ao=some x->0 < cap->x.block≠g) (hg:w.grownBy w1 (some g)):Gen.IsRow .u8 w1 ao len cap zs:=
 ss_ hr fun x i v hx hc h=>hg.cell h (fun e=>hn x hx hc (by rw [tu_] at e; cases e; rfl))
theorem ym_ {len:Nat} (hr:Gen.IsRow .u8 w ao len cap zs) (hb:Below w.heap.size w w1):Gen.IsRow .u8 w1 ao len cap zs:=
 ss_ hr fun x i v _ _ h=>by rw [hb.cell (zh_ h)]; exact h
theorem p1_ {len:Nat} (hr:Gen.IsRow .u8 w ao len cap zs) (x:Addr) (hx:ao=some x) (hl:0 < cap):x.block < w.heap.size:=by
 rcases hr with ⟨h,_⟩ | ⟨y,hy,h1,h2,h3,h4,h5⟩
 ·rw [h] at hx; cases hx
 ·rw [hx] at hy; cases hy
  have:=zh_ (h4 0 (by omega))
  rwa [tu_] at this
def yr_ (w:World) (g:Nat) (ao:Option Addr) (len cap:Nat) (k s:Int):Prop:=
 w.cell? ⟨g,0,none⟩=some (.slice ao len cap)∧w.cell? ⟨g,1,none⟩=some (.int .i64 k)∧w.cell? ⟨g,2,none⟩=some (.int .i64 s)∧w.frozen? ⟨g,1,none⟩=false∧w.frozen? ⟨g,2,none⟩=false∧g < w.heap.size∧0<=s∧s < 2147483648
theorem yr_.alloc {len:Nat} {k s:Int} {ob:Obj} (h:yr_ w g ao len cap k s):yr_ (w.alloc ob) g ao len cap k s:=by
 obtain ⟨c0,c1,c2,f1,f2,hg,hs⟩:=h;have hb:Below w.heap.size w (w.alloc ob):=(Below.refl _ _).alloc (Nat.le_refl _) _;exact ⟨za_ hb c0 hg,za_ hb c1 hg,za_ hb c2 hg,zf_ hb f1 hg,zf_ hb f2 hg,by simp; omega,hs⟩
theorem o6_ (g b off len cap:Nat) (k s z:Int) (w:World) (hbg:b≠g) (hk0:0<=k) (hk:k < (len:Int)) (hl:(len:Int)<=1048576) (hz0:0<=z) (hz:z<=255) (hs0:0<=s) (hs:s < 2147483648) (hgs:g < w.heap.size)
  (c0:w.cell? ⟨g,0,none⟩=some (.slice (some ⟨b,off,none⟩) len cap)) (c1:w.cell? ⟨g,1,none⟩=some (.int .i64 k)) (c2:w.cell? ⟨g,2,none⟩=some (.int .i64 s))
  (f1:w.frozen? ⟨g,1,none⟩=false) (f2:w.frozen? ⟨g,2,none⟩=false) (cz:w.cell? ⟨b,off+k.toNat,none⟩=some (.int .u8 z)) :
  Calls Tryz.prog 137 #[.pointer (some ⟨g,0,none⟩)] w fun e w'=>e=.returned (.int .i64 z)∧yr_ w' g (some ⟨b,off,none⟩) len cap (k+1) ((s * 31+z+7) % 2147483648)∧w.grownBy w' (some g):=by
 have hkk:k+1<=(len:Int):=by omega
 have hw:IntKind.i64.wrap k=k:=by rw [IntKind.wrap_i64]; omega
 go_enter Tryz.func137,Tryz.ntmps137;go_wp2
 go_quiet (fail)
 go_wp2
 go_region
 go_wp2
 go_quiet (fail)
 go_wp2;go_ret;refine ⟨rfl,⟨by go_simp,by go_simp,by go_simp,by go_simp,by go_simp,by simpa [World.setCell] using hgs,by omega,by omega⟩,?_⟩;exact (((yo_ _ _ _ _).trans (yN_ _ _ _)).trans (yo_ _ _ _ _)).trans (yN_ _ _ _)
theorem pU_ (g len cap:Nat) (ao:Option Addr) (k s:Int) (w:World) (hk0:3000<=k) (hk:(len:Int)<=k) (hkm:k<=1000000000) (hs0:0<=s) (hs:s < 2147483648) (hgs:g < w.heap.size)
  (c0:w.cell? ⟨g,0,none⟩=some (.slice ao len cap)) (c1:w.cell? ⟨g,1,none⟩=some (.int .i64 k)) (c2:w.cell? ⟨g,2,none⟩=some (.int .i64 s))
  (f1:w.frozen? ⟨g,1,none⟩=false) (f2:w.frozen? ⟨g,2,none⟩=false) :
  Calls Tryz.prog 137 #[.pointer (some ⟨g,0,none⟩)] w fun e w'=>e=.returned (.int .i64 0)∧yr_ w' g ao len cap (k+1) s∧w.grownBy w' (some g):=by
 have hkk:¬ k+1<=(len:Int):=by omega
 have hdd:decide (k+1<=(len:Int))=false:=by simpa using hkk
 have hk3:3000 < k+1:=by omega
 go_enter Tryz.func137,Tryz.ntmps137;go_wp2
 go_quiet (fail)
 go_wp2;go_ret;refine ⟨rfl,⟨by go_simp,by go_simp,by go_simp,by go_simp,by go_simp,by simpa [World.setCell] using hgs,by omega,by omega⟩,?_⟩;exact (yo_ _ _ _ _).trans (yN_ _ _ _)
theorem qV_ (g len cap:Nat) (ao:Option Addr) (k s:Int) (w:World) (hk0:0<=k) (hk:(len:Int)<=k) (hkm:k < 3000) (hs0:0<=s) (hs:s < 2147483648) (hgs:g < w.heap.size)
  (c0:w.cell? ⟨g,0,none⟩=some (.slice ao len cap)) (c1:w.cell? ⟨g,1,none⟩=some (.int .i64 k)) (c2:w.cell? ⟨g,2,none⟩=some (.int .i64 s))
  (f1:w.frozen? ⟨g,1,none⟩=false) (f2:w.frozen? ⟨g,2,none⟩=false) :
  Calls Tryz.prog 137 #[.pointer (some ⟨g,0,none⟩)] w fun e w'=>(∃ n:Int,0<=n∧n<=255∧e=.returned (.int .i64 n))∧yr_ w' g ao len cap (k+1) ((s * 1103515245+12345) % 2147483648)∧w.grownBy w' (some g):=by
 have hkk:¬ k+1<=(len:Int):=by omega
 have hdd:decide (k+1<=(len:Int))=false:=by simpa using hkk
 have hk3:¬ 3000 < k+1:=by omega
 go_enter Tryz.func137,Tryz.ntmps137;go_wp2
 go_quiet (fail)
 go_wp2;go_ret;refine ⟨⟨_,?_,?_,rfl⟩,⟨by go_simp,by go_simp,by go_simp,by go_simp,by go_simp,by simpa [World.setCell] using hgs,by omega,by omega⟩,?_⟩
 ·omega
 ·omega
 ·exact ((yo_ _ _ _ _).trans (yN_ _ _ _)).trans (yo_ _ _ _ _)
theorem pV_ (g len cap:Nat) (ao:Option Addr) (zs:List Int) (k s:Int) (w:World) (h:yr_ w g ao len cap k s) (hr:Gen.IsRow .u8 w ao len cap zs) (hn:∀ x,ao=some x->0 < cap->x.block≠g) (hl:(len:Int)<=1048576) (hk0:0<=k) (hk:k<=1000000000) :
  Calls Tryz.prog 137 #[.pointer (some ⟨g,0,none⟩)] w fun e w'=>∃ n t:Int,(0<=n∧n<=255)∧e=.returned (.int .i64 n)∧yr_ w' g ao len cap (k+1) t∧w.grownBy w' (some g):=by
 obtain ⟨c0,c1,c2,f1,f2,hg,hs0,hs⟩:=h;by_cases h1:k < (len:Int)
 ·rcases hr with ⟨_,e,_⟩ | ⟨x,hx,r1,r2,r3,r4,r5⟩
  ·exfalso; omega
  ·subst hx;obtain ⟨bb,off,spot⟩:=x;have r00:=r4 0 (by omega);have hspot:spot=none:=by simpa [Addr.add] using World.cell?_spot r00
   subst hspot;have r40:=r4 k.toNat (by omega);rw [s3_] at r40;have hz:=bounds_u8 (r5 (zs.getD k.toNat 0) (by rw [List.getD_eq_getElem?_getD,List.getElem?_eq_getElem (by omega)]; exact List.getElem_mem _));exact (o6_ g bb off len cap k s _ w (hn _ rfl (by omega)) hk0 h1 hl hz.1 hz.2 hs0 hs hg c0 c1 c2 f1 f2 r40).mono fun e w' ⟨he,hS,hG⟩=>⟨_,_,⟨hz.1,hz.2⟩,he,hS,hG⟩
 ·by_cases h2:k < 3000
  ·exact (qV_ g len cap ao k s w hk0 (by omega) h2 hs0 hs hg c0 c1 c2 f1 f2).mono fun e w' ⟨⟨n,n0,n1,he⟩,hS,hG⟩=>⟨n,_,⟨n0,n1⟩,he,hS,hG⟩
  ·exact (pU_ g len cap ao k s w (by omega) (by omega) hk hs0 hs hg c0 c1 c2 f1 f2).mono fun e w' ⟨he,hS,hG⟩=>⟨0,s,by omega,he,hS,hG⟩
theorem uk_ (g len cap:Nat) (ao:Option Addr) (zs:List Int) (k s m:Int) (hm:2<=m) (hm':m<=256) (w:World) (h:yr_ w g ao len cap k s) (hr:Gen.IsRow .u8 w ao len cap zs) (hn:∀ x,ao=some x->0 < cap->x.block≠g) (hl:(len:Int)<=1048576) (hk0:0<=k) (hk:k<=1000000000) :
  Calls Tryz.prog 79 #[.pointer (some ⟨g,0,none⟩),.int .i64 m] w fun e w'=>∃ n t:Int,(0<=n∧n < m)∧e=.returned (.int .i64 n)∧yr_ w' g ao len cap (k+1) t∧w.grownBy w' (some g):=by
 have HC:Hid (Calls Tryz.prog 137 #[.pointer (some ⟨g,0,none⟩)] w fun e w'=>∃ n t:Int,(0<=n∧n<=255)∧e=.returned (.int .i64 n)∧yr_ w' g ao len cap (k+1) t∧w.grownBy w' (some g)):=pV_ g len cap ao zs k s w h hr hn hl hk0 hk;clear h hr hn;have hm1:¬ m<=1:=by omega
 go_enter Tryz.func79,Tryz.ntmps79;go_wp2_with fail;refine HC.out.mono ?_;rintro e w1 ⟨n,t,⟨n0,n1⟩,rfl,hS0,hG0⟩;have hS:=hm_ hS0;have hG:=hm_ hG0;clear hS0 hG0;go_wp2_with fail;go_ret;refine ⟨_,t,?_,rfl,hS.out,hG.out⟩;exact ⟨Int.emod_nonneg _ (by omega),Int.emod_lt_of_pos _ (by omega)⟩
theorem yr_.next (hG:w.grownBy w1 (some g)) {b o:Nat} {v:Value} (hc:w.cell? ⟨b,o,none⟩=some v) (hf:w.frozen? ⟨b,o,none⟩=false) (hne:b≠g):w1.cell? ⟨b,o,none⟩=some v∧w1.frozen? ⟨b,o,none⟩=false:=
 ⟨zm_ hG hc hne,xN_ hG hf (zh_ hc) hne⟩
end
section
variable {ao:Option Addr} {cap g:Nat} {u:Value} {w w':World}
theorem yr_.below {len:Nat} {k s:Int} (h:yr_ w g ao len cap k s) (hb:Below w.heap.size w w'):yr_ w' g ao len cap k s:=by
 obtain ⟨c0,c1,c2,f1,f2,hl,hs⟩:=h;exact ⟨za_ hb c0 hl,za_ hb c1 hl,za_ hb c2 hl,zf_ hb f1 hl,zf_ hb f2 hl,Nat.lt_of_lt_of_le hl hb.size,hs⟩
theorem yr_.set {p o:Nat} {len:Nat} {k s:Int} (h:yr_ w g ao len cap k s) (hne:g≠p):yr_ (w.setCell ⟨p,o,none⟩ u) g ao len cap k s:=by
 obtain ⟨c0,c1,c2,f1,f2,hl,hs⟩:=h;exact ⟨zg_ c0 hne,zg_ c1 hne,zg_ c2 hne,by simpa using f1,by simpa using f2,by simpa [World.setCell] using hl,hs⟩
theorem rx_ (g len cap:Nat) (ao:Option Addr) (zs:List Int) (k s m:Int) (hm:2<=m) (hm':m<=256) (w:World) (h:yr_ w g ao len cap k s) (hr:Gen.IsRow .u8 w ao len cap zs) (hn:∀ x,ao=some x->0 < cap->x.block≠g) (hl:(len:Int)<=1048576) (hk0:0<=k) (hk:k<=1000000000) :
  Calls Tryz.prog 80 #[.pointer (some ⟨g,0,none⟩),.int .i64 m] w fun e w'=>∃ (b:Bool) (t:Int),e=.returned (.bool b)∧yr_ w' g ao len cap (k+1) t∧w.grownBy w' (some g):=by
 have HC:Hid _:=uk_ g len cap ao zs k s m hm hm' w h hr hn hl hk0 hk;clear h hr hn;have q1:IntKind.i64.wrap (m - 1)=m - 1:=by rw [IntKind.wrap_i64]; omega
 go_enter Tryz.func80,Tryz.ntmps80;go_wp2_with fail;refine Calls.mono HC.out ?_;rintro e w1 ⟨n,t,_,rfl,hS0,hG0⟩;have hS:=hm_ hS0;have hG:=hm_ hG0;clear hS0 hG0;obtain ⟨b,hb⟩:∃ b:Bool,(n == m - 1)=b:=⟨_,rfl⟩;go_wp2_with fail;go_ret;exact ⟨b,t,by first | rfl | exact zi_ hb,hS.out,hG.out⟩
theorem pg_ (g len cap:Nat) (ao:Option Addr) (k s m:Int) (hm:2<=m) (hm':m<=100) (w:World) (h:yr_ w g ao len cap k s) (hl:(len:Int)<=1048576) :
  Calls Tryz.prog 126 #[.pointer (some ⟨g,0,none⟩),.int .i64 m] w fun e w'=>∃ n:Int,(1<=n∧n<=m)∧e=.returned (.int .i64 n)∧Below w.heap.size w w':=by
 have c0:=h.1;clear h;have q1:((len:Int)).tdiv 12=(len:Int) / 12:=Int.tdiv_eq_ediv_of_nonneg (by omega);have q2:IntKind.i64.wrap ((len:Int) / 12)=(len:Int) / 12:=by rw [IntKind.wrap_i64]; omega
 have q3:IntKind.i64.wrap (1+(len:Int) / 12)=1+(len:Int) / 12:=by rw [IntKind.wrap_i64]; omega
 go_enter Tryz.func126,Tryz.ntmps126;go_wp2
 all_goals
  go_ret;refine ⟨_,?_,rfl,?_⟩
  ·first | omega | (simp; omega) | (split <;> omega)
  ·repeat (first | exact Below.refl _ _ | refine Below.drew ?_ | refine below_drewN ?_ _ | refine Below.alloc ?_ (by first | (simp; done) | (simp; omega)) _ | refine Below.setCell ?_ (by first | (simp; done) | (simp; omega)) _)
theorem vA_ (len cap:Nat) (ao:Option Addr) (w:World) (hl:(len:Int)<=1048576) :
  Calls Tryz.prog 34 #[.slice ao len cap] w fun e w'=>e=.returned (.pointer (some ⟨w.heap.size,0,none⟩))∧w'=w.alloc (.cells #[.slice ao len cap,.int .i64 0,.int .i64 ((len:Int) % 1000)] 117):=by
 go_enter Tryz.func34,Tryz.ntmps34;go_wp2;go_ret;exact ⟨rfl,rfl⟩
end
section
variable {W:World} {ao:Option Addr} {cap:Nat} {zs:List Int}
theorem ps_ {len:Nat} (hr:Gen.IsRow .u8 W ao len cap zs) (hl:0 < len):∃ b off,ao=some ⟨b,off,none⟩∧∀ j,j < len->∃ z:Int,0<=z∧z<=255∧W.cell? ⟨b,off+j,none⟩=some (.int .u8 z):=by
 rcases hr with ⟨_,h,_⟩ | ⟨x,rfl,h1,h2,h3,h4,h5⟩
 ·omega
 ·obtain ⟨b,off,spot⟩:=x;have c0:=h4 0 (by omega)
  have hspot:spot=none:=by
   have:=World.cell?_spot (a:=_) (w:=W) (by simpa [Addr.add] using c0)
   simpa using this
  subst hspot;refine ⟨b,off,rfl,fun j hj=>⟨zs.getD j 0,?_⟩⟩
  have hm:zs.getD j 0 ∈ zs:=by
   rw [List.getD_eq_getElem?_getD,List.getElem?_eq_getElem (by omega)];exact List.getElem_mem _
  have hw:=h5 _ hm;have cj:=h4 j (by omega);rw [s3_] at cj;generalize zs.getD j 0=z at *;have hmin:IntKind.u8.min=0:=by decide
  have hmax:IntKind.u8.max=255:=by decide
  simp [Lit.wf,hmin,hmax] at hw;exact ⟨by omega,by omega,cj⟩
def AtP (W:World) (n:Nat) (e:Ending) (w':World):Prop:=∃ r:Nat,e=.returned (.int .i64 (r:Int))∧Below W.heap.size W w'∧(r < n∨r=0)
theorem oc_ (ao:Option Addr) (len cap:Nat) (zs:List Int) (i:Int) (n:Nat) (w:World) (hi0:0<=i) (hi:i<=2) (hn:n<=1048576) (hl:len<=1048576) (hr0:Gen.IsRow .u8 w ao len cap zs) :
  Calls Tryz.prog 9 #[.slice ao len cap,.int .i64 i,.int .i64 (n:Int)] w fun e w'=>AtP w n e w':=by
 by_cases h1:n<=1
 ·have h1':(n:Int)<=1:=by omega
  go_enter Tryz.func9,Tryz.ntmps9;go_wp2;go_ret;exact ⟨0,rfl,Below.refl _ _,.inr rfl⟩
 have h1':¬ (n:Int)<=1:=by omega
 have hn0:¬ (n:Int)=0:=by omega
 have hnb:((n:Int) == 0)=false:=beq_eq_false_iff_ne.2 hn0;by_cases hz:len=0
 ·subst hz;have q1:IntKind.i64.wrap (i * 7)=i * 7:=by rw [IntKind.wrap_i64]; omega
  obtain ⟨r,hr⟩:∃ r:Nat,(i * 7).tmod (n:Int)=(r:Int):=⟨((i * 7) % (n:Int)).toNat,by rw [Int.tmod_eq_emod_of_nonneg (by omega)]; have:=Int.emod_nonneg (i * 7) hn0; omega⟩
  have hrl:r < n:=by
   have h2:=Int.emod_lt_of_pos (i * 7) (show (0:Int) < (n:Int) by omega);rw [Int.tmod_eq_emod_of_nonneg (by omega)] at hr;omega
  have q2:IntKind.i64.wrap (r:Int)=(r:Int):=by rw [IntKind.wrap_i64]; omega
  go_enter Tryz.func9,Tryz.ntmps9;go_wp2;go_ret;exact ⟨r,rfl,Below.refl _ _,.inl hrl⟩
 have hl0:¬ (len:Int)=0:=by omega
 have hlb:((len:Int) == 0)=false:=beq_eq_false_iff_ne.2 hl0;obtain ⟨b,off,rfl,hcell⟩:=ps_ hr0 (by omega);obtain ⟨a1,ha1,hb1⟩:∃ a1:Nat,i.tmod (len:Int)=(a1:Int)∧a1 < len:=⟨(i % (len:Int)).toNat,by rw [Int.tmod_eq_emod_of_nonneg hi0]; have:=Int.emod_nonneg i hl0; omega,by have:=Int.emod_lt_of_pos i (show (0:Int) < (len:Int) by omega); have:=Int.emod_nonneg i hl0; omega⟩;obtain ⟨a2,ha2,hb2⟩:∃ a2:Nat,(i+1).tmod (len:Int)=(a2:Int)∧a2 < len:=⟨((i+1) % (len:Int)).toNat,by rw [Int.tmod_eq_emod_of_nonneg (by omega)]; have:=Int.emod_nonneg (i+1) hl0; omega,by have:=Int.emod_lt_of_pos (i+1) (show (0:Int) < (len:Int) by omega); have:=Int.emod_nonneg (i+1) hl0; omega⟩;obtain ⟨a3,ha3,hb3⟩:∃ a3:Nat,i.tdiv (len:Int)=(a3:Int)∧a3<=2:=⟨(i / (len:Int)).toNat,by rw [Int.tdiv_eq_ediv_of_nonneg hi0]; have:=Int.ediv_nonneg hi0 (show (0:Int)<=(len:Int) by omega); omega,by have:=Int.ediv_le_self (len:Int) hi0; omega⟩;obtain ⟨z1,p1,p1',x1⟩:=hcell a1 hb1;obtain ⟨z2,p2,p2',x2⟩:=hcell a2 hb2;have k1:(0:Int)<=(a1:Int):=by omega
 have k1':(a1:Int) < (len:Int):=by omega
 have k2:(0:Int)<=(a2:Int):=by omega
 have k2':(a2:Int) < (len:Int):=by omega
 have q0:IntKind.i64.wrap (i+1)=i+1:=by rw [IntKind.wrap_i64]; omega
 have q1:IntKind.i64.wrap (a1:Int)=(a1:Int):=by rw [IntKind.wrap_i64]; omega
 have q2:IntKind.i64.wrap (a2:Int)=(a2:Int):=by rw [IntKind.wrap_i64]; omega
 have q3:IntKind.i64.wrap (a3:Int)=(a3:Int):=by rw [IntKind.wrap_i64]; omega
 have q4:IntKind.i64.wrap z1=z1:=by rw [IntKind.wrap_i64]; omega
 have q5:IntKind.i64.wrap z2=z2:=by rw [IntKind.wrap_i64]; omega
 have q6:IntKind.i64.wrap (z1 * 31)=z1 * 31:=by rw [IntKind.wrap_i64]; omega
 have q7:IntKind.i64.wrap (z1 * 31+z2)=z1 * 31+z2:=by rw [IntKind.wrap_i64]; omega
 have q8:IntKind.i64.wrap (z1 * 31+z2+(a3:Int))=z1 * 31+z2+(a3:Int):=by rw [IntKind.wrap_i64]; omega
 obtain ⟨r,hr,hrl⟩:∃ r:Nat,(z1 * 31+z2+(a3:Int)).tmod (n:Int)=(r:Int)∧r < n:=⟨((z1 * 31+z2+(a3:Int)) % (n:Int)).toNat,by rw [Int.tmod_eq_emod_of_nonneg (by omega)]; have:=Int.emod_nonneg (z1 * 31+z2+(a3:Int)) hn0; omega,by have:=Int.emod_lt_of_pos (z1 * 31+z2+(a3:Int)) (show (0:Int) < (n:Int) by omega); have:=Int.emod_nonneg (z1 * 31+z2+(a3:Int)) hn0; omega⟩;have q9:IntKind.i64.wrap (r:Int)=(r:Int):=by rw [IntKind.wrap_i64]; omega
 clear hcell hr0;go_enter Tryz.func9,Tryz.ntmps9;go_wp2
 go_quiet (fail)
 go_wp2;go_ret;exact ⟨r,rfl,below_drewN (Below.refl _ _) _,.inl hrl⟩
end
end Go.Proofs.YtijcjhcgpmnchaaGreatDoor
