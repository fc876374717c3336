/- Nodes, part 20 of the law FnTake. -/
import Derived.Test.YtijcjhcgpmnchaaGreatDoorM18
import Derived.Laws.CopyOwn
namespace Go.Proofs.YtijcjhcgpmnchaaGreatDoor
open Go.RowKit
set_option maxRecDepth 100000
set_option maxHeartbeats 16000000
set_option linter.unusedSimpArgs false
set_option linter.unusedVariables false
variable {W w:World} {ao:Option Addr} {g n:Nat} {xs:List Value}
theorem tB_ (k m:Nat) (xs:List Value) (z:Value) (hk:xs.length=k):splice (List.replicate (k+m) z) 0 xs=xs++List.replicate m z:=by
 unfold splice;simp [hk]
theorem tA_ (k:Nat) (xs ys:List Value) (z:Value) (hk:xs.length=k):splice (xs++List.replicate ys.length z) k ys=xs++ys:=by
 unfold splice;rw [List.take_append_of_le_length (by omega),List.take_of_length_le (by omega),List.drop_of_length_le (by simp; omega),List.append_nil]
theorem pD_ {z:Value} (h:w.ownsRow 0 9 1 (.slice (some ⟨g,0,none⟩) n n) n (List.replicate n z)):w.heap[g]? = some (.cells (List.replicate n z).toArray 9 (0,0)):=by
 rcases h.2 with ⟨h',_⟩ | ⟨g',cap,cur,h',_,hh,_,_,hs,ht⟩
 ·cases h'
 ·cases h';rw [hh]
  have:cur.toList=List.replicate n z:=by
   rw [<- ht,List.take_of_length_le (by simp; omega)]
  congr
  rw [<- this]
theorem pr_ (h:w.heap[g]? = some (.cells xs.toArray 9 (0,0))) (hx:xs.length=n) (hn:n<=maxLen):w.ownsRow 0 9 1 (.slice (some ⟨g,0,none⟩) n n) n xs:=
 ⟨by omega,.inr ⟨g,n,xs.toArray,rfl,Nat.zero_le _,h,Nat.le_refl _,hn,by simp; omega,by rw [<- hx]; simp⟩⟩
theorem rV_ {ls:List ByteArray} (h:TRow W ao ls):0 < (V ls).length->∃ ad,ao=some ad∧∀ j v,(V ls)[j]? = some v->W.cell? (ad.add j)=some v:=fun hp=>by
 rcases h with rfl | ⟨b,off,rfl,h2⟩
 ·simp [V] at hp
 ·refine ⟨_,rfl,fun j v hv=>?_⟩
  have hj:j < ls.length:=by
   rcases Nat.lt_or_ge j ls.length with q | q
   ·exact q
   ·rw [List.getElem?_eq_none (by rw [q5_]; exact q)] at hv; cases hv
  rw [V_at ls j hj] at hv;cases hv
  have:((⟨b,off,none⟩:Addr).add j)=⟨b,off+j,none⟩:=by
   unfold Addr.add;by_cases hk:j=0 <;> simp [hk]
  rw [this];exact h2 j hj
theorem xH_ {P:Program} (w:World) (dT sT ty elem:TypeId) (hu:P.underlying dT=some (.slice elem)) (hsz:(P.info? elem).map (·.size)=some 1)
  (dp sp:Option Addr) (dLen dCap sLen sCap:Nat) (g off:Nat) (cur:List Value) (t:TypeId) (hg:w.heap[g]? = some (.cells cur.toArray t (0,0))) (cs:List Value) (hn:cs.length=Nat.min sLen dLen)
  (hpos:0 < cs.length->dp=some ⟨g,off,none⟩∧∃ ad,sp=some ad∧∀ j v,cs[j]? = some v->w.cell? (ad.add j)=some v)
  (hfit:off+cs.length<=cur.length) (h1:∀ v ∈ cs,v.oneCell'=true) (B:Nat) (w0:World) (hb:Below B w0 w) (hBg:B<=g) :
  ∃ w',(Builtin.copy_ #[dT,sT] ty #[.slice dp dLen dCap,.slice sp sLen sCap]).run P w=.ok (goInt cs.length) w'∧w'.heap[g]? = some (.cells (splice cur off cs).toArray t (0,0))∧Below B w0 w':=by
 by_cases h0:cs.length=0
 ·obtain rfl:cs=[]:=List.eq_nil_of_length_eq_zero h0;exact ⟨w,run_copy_none (P:=P) w dT sT ty elem dp sp dLen dCap sLen sCap hu hsz (by simpa using hn.symm),by simpa [splice] using hg,hb⟩
 ·obtain ⟨rfl,ad,rfl,hsrc⟩:=hpos (by omega);exact ⟨_,run_copy_row (P:=P) w dT sT ty elem g off dLen dCap ad sLen sCap cur.toArray t cs hu hsz hg hn hsrc (by simpa using hfit) h1,by simpa [splice] using setRow_heap w g _ _ t _ hg,below_setRow hb hBg _⟩
theorem xz_ (ao bo:Option Addr) (c0 c1:Nat) (ls ms:List ByteArray) (w:World) (hn:ls.length<=1048576) (hn':ms.length<=1048576) (hr0:TRow w ao ls) (hs0:TRow w bo ms) :
  Calls Tryz.prog 115 #[.slice ao ls.length c0,.slice bo ms.length c1] w fun e w'=>∃ g,e=.returned (.slice (some ⟨g,0,none⟩) (ls.length+ms.length) (ls.length+ms.length))∧Below w.heap.size w w'∧w.heap.size<=g∧g < w'.heap.size∧w'.ownsRow 0 9 1 (.slice (some ⟨g,0,none⟩) (ls.length+ms.length) (ls.length+ms.length)) (ls.length+ms.length) (V (ls++ms)):=by
 have hr:Hid (TRow w ao ls):=hr0;have hs:Hid (TRow w bo ms):=hs0;clear hr0 hs0;obtain ⟨n,hn0⟩:∃ n,n=ls.length:=⟨_,rfl⟩;obtain ⟨m,hm0⟩:∃ m,m=ms.length:=⟨_,rfl⟩;have HN:Hid (n=ls.length):=hn0;have HM:Hid (m=ms.length):=hm0;rw [<- hn0,<- hm0];rw [<- hn0] at hn;rw [<- hm0] at hn';clear hn0 hm0;obtain ⟨i0,hi,hz0,hz1,hz2⟩:=info_parts xW_;obtain ⟨w0,hrun,hown,hgrow⟩:=run_make_full (P:=Tryz.prog) w 0 25 9 i0 (.string ⟨#[]⟩) 1 Tryz.underlying25 hi hz0 hz1 .i64 .i64 (n+m) (by rw [hz2]; omega) (by unfold maxLen; omega) (Nat.zero_le _);rw [show (Value.string ⟨#[]⟩).cells = #[.string ⟨#[]⟩] from rfl,toList_madeCells_one,Nat.mul_one] at hown
 have HG:Hid (w0.heap[w.heap.size]? = some (.cells (List.replicate (n+m) (Value.string ⟨#[]⟩)).toArray 9 (0,0))):=pD_ hown;have hB:Hid (Below w.heap.size w w0):=(Below.refl _ _).grown hgrow (Nat.le_refl _) (fun k e=>by cases e);have e1:((n+m:Nat):Int)=(n:Int)+(m:Int):=by omega
 rw [e1] at hrun;have q:IntKind.i64.wrap ((n:Int)+(m:Int))=(n:Int)+(m:Int):=by rw [IntKind.wrap_i64]; omega
 clear hown hgrow hi hz0 hz1 hz2 e1;have LEN:Hid ((V ls).length=n∧(V ms).length=m):=⟨by rw [q5_,HN.out],by rw [q5_,HM.out]⟩;obtain ⟨w2,hrc,hg2,hb2⟩:=xH_ (P:=Tryz.prog) w0 25 25 3 9 Tryz.underlying25 (by kernel_rfl) (some ⟨w.heap.size,0,none⟩) ao (n+m) (n+m) n c0 w.heap.size 0 (List.replicate (n+m) (Value.string ⟨#[]⟩)) 9 HG.out (V ls) (by rw [LEN.out.1]; simp [Nat.min_def]) (fun hp=>⟨rfl,rV_ (hr.out.next hB.out) hp⟩) (by rw [LEN.out.1]; simp) (nd_ _) w.heap.size w hB.out (Nat.le_refl _);rw [tB_ n m (V ls) _ LEN.out.1] at hg2;rw [LEN.out.1] at hrc;have HG2:=hm_ hg2;have HB2:=hm_ hb2;clear hg2 hb2;obtain ⟨w3,hrd,hg3,hb3⟩:=xH_ (P:=Tryz.prog) w2 25 25 3 9 Tryz.underlying25 (by kernel_rfl) (if m=0 then (some ⟨w.heap.size,0,none⟩) else (some ⟨w.heap.size,n,none⟩)) bo m m m c1 w.heap.size n (V ls++List.replicate m (Value.string ⟨#[]⟩)) 9 HG2.out (V ms) (by rw [LEN.out.2]; simp) (fun hp=>⟨by rw [if_neg (by rw [LEN.out.2] at hp; omega)],rV_ (hs.out.next HB2.out) hp⟩) (by rw [LEN.out.2,List.length_append,LEN.out.1]; simp) (nd_ _) w.heap.size w HB2.out (Nat.le_refl _);have hsp:=tA_ n (V ls) (V ms) (.string ⟨#[]⟩) LEN.out.1;rw [LEN.out.2] at hsp;rw [hsp] at hg3;rw [LEN.out.2] at hrd;have HG3:=hm_ hg3;have HB3:=hm_ hb3
 have O3:Hid (w3.ownsRow 0 9 1 (.slice (some ⟨w.heap.size,0,none⟩) (n+m) (n+m)) (n+m) (V (ls++ms))):=by
  have:=pr_ HG3.out (n:=n+m) (by rw [List.length_append,LEN.out.1,LEN.out.2]) (by unfold maxLen; omega)
  rw [<- nW_] at this;exact this
 clear hg3 hb3 hsp;have nn:(0:Int)<=(n:Int):=by omega
 have nm:(n:Int)<=(n:Int)+(m:Int):=by omega
 by_cases hm:m=0
 focus
  rw [if_pos hm] at hrd;subst hm;simp only [Nat.add_zero,Int.natCast_zero,Int.add_zero] at hrun hrc hrd O3 ⊢;clear q nm HG HG2
 rotate_left
 focus
  rw [if_neg hm] at hrd
 rotate_left
 all_goals
  go_enter Tryz.func115,Tryz.ntmps115;go_wp2
  all_goals go_ret
  all_goals exact ⟨_,rfl,HB3.out,Nat.le_refl _,(O3.out.lt _ rfl).2,O3.out⟩
end Go.Proofs.YtijcjhcgpmnchaaGreatDoor
