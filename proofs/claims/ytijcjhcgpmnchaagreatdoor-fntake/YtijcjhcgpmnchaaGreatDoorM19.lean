/- Nodes, part 19 of the law FnTake. -/
import Derived.Test.YtijcjhcgpmnchaaGreatDoorM12
import Derived.Test.YtijcjhcgpmnchaaGreatDoorM17
namespace Go.Proofs.YtijcjhcgpmnchaaGreatDoor
open Go.RowKit
set_option maxRecDepth 100000
set_option maxHeartbeats 16000000
set_option linter.unusedSimpArgs false
set_option linter.unusedVariables false
section
variable {b i:Nat} {s:ByteArray}
theorem t3_ {i:Option TypeInfo} {z:Option Value} {a:Nat} (h:i.map (fun i=>(i.zero,i.size,i.bytes))=some (z,a,b)):∃ i0,i=some i0∧i0.zero=z∧i0.size=a∧i0.bytes=b:=by
 cases i with
 | none=>cases h
 | some i0=>simp at h; exact ⟨i0,rfl,h.1,h.2.1,h.2.2⟩
theorem nM_ (s:ByteArray) (a b:Nat) (h:a<=b) (hb:b<=s.size):bl (s.extract a b)=((bl s).drop a).take (b - a):=by
 unfold bl;rw [ByteArray.data_extract];simp
theorem qF_ (s:ByteArray) (a b:Nat) (h:a<=b) (hb:b<=s.size):(s.extract a b).size=b - a:=by
 rw [ByteArray.size_extract]; omega
def CutI (w wr:World) (s:ByteArray) (c:Nat) (v:Value) (i fr:Nat) (ps:List ByteArray):Prop:=wr.ownsRow 0 9 1 v ps.length (ps.map Value.string)∧Gro w wr (.slice none 0 0) v∧cutL (UInt8.ofNat c) (bl s)=ps.map bl++cutL (UInt8.ofNat c) ((bl s).drop fr)∧(∀ d ∈ ((bl s).drop fr).take (i - fr),d≠UInt8.ofNat c)∧(∀ p ∈ ps,p.size<=s.size)∧ps.length<=fr
def CutP (w:World) (s:ByteArray) (c:Nat) (e:Ending) (w':World):Prop:=∃ (g cap:Nat) (ps:List ByteArray),e=.returned (.slice (some ⟨g,0,none⟩) ps.length cap)∧ps.map bl=cutL (UInt8.ofNat c) (bl s)∧(∀ p ∈ ps,p.size<=s.size)∧(∀ i (h:i < ps.length),w'.cell? ⟨g,i,none⟩=some (.string ps[i]))∧Below w.heap.size w w'
theorem pR_ {fr c:Nat} (hi:i < s.size) (hf:fr<=i) (hN:∀ d ∈ ((bl s).drop fr).take (i - fr),d≠UInt8.ofNat c) (hd:s[i]≠UInt8.ofNat c):∀ d ∈ ((bl s).drop fr).take (i+1 - fr),d≠UInt8.ofNat c:=by
 intro d hm;have e:i+1 - fr=(i - fr)+1:=by omega
 have hl:i - fr < ((bl s).drop fr).length:=by rw [List.length_drop,zF_]; omega
 rw [e,List.take_succ_eq_append_getElem hl,List.mem_append] at hm;rcases hm with hm | hm
 ·exact hN d hm
 ·rw [List.mem_singleton,List.getElem_drop] at hm;have e2:fr+(i - fr)=i:=by omega
  simp only [e2] at hm;rw [hm];exact hd
theorem o2_ {fr c:Nat} (hi:i < s.size) (hf:fr<=i) (hN:∀ d ∈ ((bl s).drop fr).take (i - fr),d≠UInt8.ofNat c) (hd:s[i]=UInt8.ofNat c):cutL (UInt8.ofNat c) ((bl s).drop fr)=bl (s.extract fr i) :: cutL (UInt8.ofNat c) ((bl s).drop (i+1)):=by
 rw [nM_ s fr i hf (by omega)]
 have e:(bl s).drop fr=((bl s).drop fr).take (i - fr)++UInt8.ofNat c :: (bl s).drop (i+1):=by
  have h1:=List.take_append_drop (i - fr) ((bl s).drop fr);rw [List.drop_drop] at h1;have e2:fr+(i - fr)=i:=by omega
  rw [e2,yC_ s i hi,hd] at h1;exact h1.symm
 have:=yH_ (UInt8.ofNat c) _ ((bl s).drop (i+1)) hN
 rw [<- e] at this;exact this
theorem uz_ (s:ByteArray) (c:Nat) (w:World) (hs:s.size<=1048576) (hc256:c < 256) :
  Calls Tryz.prog 185 #[.string s,.int .u8 c] w fun e w'=>CutP w s c e w':=by
 obtain ⟨i0,hi,hz0,hz1,hz2⟩:=t3_ xW_;have HI:Hid (Tryz.prog.info? 9=some i0∧i0.zero=some (.string ⟨#[]⟩)∧i0.size=1∧i0.bytes=16):=⟨hi,hz0,hz1,hz2⟩;clear hi hz0 hz1 hz2;go_enter Tryz.func185,Tryz.ntmps185;go_wp2;go_loopw [5,6,7] (fun s5 s6 s7 wr=>∃ (i fr:Nat) (ps:List ByteArray),i<=s.size∧fr<=i∧s7=.int .i64 i∧s6=.int .i64 fr∧CutI w wr s c s5 i fr ps) (fun _ _ s7 _=>s.size - (intOf s7).toNat)
 case atStart=>
  refine ⟨0,0,[],by omega,by omega,rfl,rfl,?_,?_,by simp,?_,?_,by simp⟩
  ·exact World.ownsRow_lit (base:=0) (e:=9) (size:=1) w #[] 0 (Nat.zero_le _) (by unfold maxLen; omega) (by simp)
  ·exact ⟨(Gro.of_below (v:=.slice none 0 0) (zb_ _ _)).grown,fun k hk=>.inr (by simp [Value.ownBlock] at hk; omega)⟩
  ·intro d hd; simp at hd
  ·intro p hp; simp at hp
 case round=>
  obtain ⟨i,fr,ps,hi,hf,rfl,rfl,hO0,hG0,hE0,hN0,hP0,hL0⟩:=hrel;have hO:=hm_ hO0;have hG:=hm_ hG0;have hE:=hm_ hE0;have hN:=hm_ hN0;have hP:=hm_ hP0;have hL:Hid (ps.length<=fr):=hL0;clear hO0 hG0 hE0 hN0 hP0 hL0;have kk:(0:Int)<=(i:Int):=by omega
  have kf:(0:Int)<=(fr:Int):=by omega
  have kfi:(fr:Int)<=(i:Int):=by omega
  have kis:(i:Int)<=(s.size:Int):=by omega
  by_cases hlt:i < s.size
  ·have hlt':(i:Int) < (s.size:Int):=by omega
   by_cases hc:(s[i]'hlt).toNat=c
   ·have hcb:(((s[i]'hlt).toNat:Int) == (c:Int))=true:=by rw [beq_iff_eq]; omega
    have HC:Hid (s[i]'hlt=UInt8.ofNat c):=by show _=_; rw [<- hc]; exact UInt8.ofNat_toNat.symm
    have HH:=o2_ hlt hf hN.out HC.out
    have HH':Hid (cutL (UInt8.ofNat c) (bl s)=(ps++[s.extract fr i]).map bl++cutL (UInt8.ofNat c) ((bl s).drop (i+1))):=by
     show _=_
     rw [hE.out,HH];simp
    clear HH hc;go_wp2_with (first | (at_builtin; refine zJ_ rfl _ _ 25 rfl 9 i0 (.string ⟨#[]⟩) 1 16 Tryz.underlying25 HI.out.1 HI.out.2.1 HI.out.2.2.1 HI.out.2.2.2 rfl (by decide) u5 _ _ rfl (hO.out.alloc _) ⟨wr.heap.size,0,none⟩ 1 1 [.string (s.extract fr i)] rfl rfl xU_ (fun u hu=>by simp at hu; subst hu; rfl) ?c3 ?c4 ?_) | go_in)
    case c3=>have:=hL.out; unfold maxLen; omega
    case c4=>have:=hL.out; omega
    intro v' w6 ho6 hg6;have O6:Hid (w6.ownsRow 0 9 1 v' (ps++[s.extract fr i]).length ((ps++[s.extract fr i]).map Value.string)):=y7_ ho6 (by simp) (by simp);have G6:Hid (Gro w w6 (.slice none 0 0) v'):=hG.out.trans ((Gro.of_below (zb_ _ _)).trans hg6)
    have P6:Hid (∀ p ∈ ps++[s.extract fr i],p.size<=s.size):=fun p hp=>by
     rw [List.mem_append,List.mem_singleton] at hp;rcases hp with hp | hp
     ·exact hP.out p hp
     ·rw [hp,qF_ s fr i hf (by omega)]; omega
    clear ho6 hg6;go_wp2
    go_roundw
    case rel=>
     refine ⟨i+1,i+1,ps++[s.extract fr i],by omega,by omega,by go_num,by go_num,O6.out,G6.out,HH'.out,?_,P6.out,by have:=hL.out; simp; omega⟩;intro d hd;rw [Nat.sub_self,List.take_zero] at hd;cases hd
    case measure=>simp [intOf]; omega
   ·have hcb:(((s[i]'hlt).toNat:Int) == (c:Int))=false:=beq_eq_false_iff_ne.2 (by omega);have HC:Hid (∀ d ∈ ((bl s).drop fr).take (i+1 - fr),d≠UInt8.ofNat c):=pR_ hlt hf hN.out (fun e=>hc (by rw [e]; simp; omega));clear hc;go_wp2
    go_roundw
    case rel=>exact ⟨i+1,fr,ps,by omega,by omega,by go_num,rfl,hO.out,hG.out,hE.out,HC.out,hP.out,hL.out⟩
    case measure=>simp [intOf]; omega
  ·have hlt':¬ (i:Int) < (s.size:Int):=by omega
   have kfs:(fr:Int)<=(s.size:Int):=by omega
   have HE:Hid ((ps++[s.extract fr s.size]).map bl=cutL (UInt8.ofNat c) (bl s)):=by
    show _=_
    have e1:((bl s).drop fr).take (i - fr)=(bl s).drop fr:=List.take_of_length_le (by rw [List.length_drop,zF_]; omega);have h1:=hN.out;rw [e1] at h1;rw [hE.out,yT_ _ _ h1];simp;rw [xm_ s fr (by omega)]
   go_wp2_with (first | (at_builtin; refine zJ_ rfl _ _ 25 rfl 9 i0 (.string ⟨#[]⟩) 1 16 Tryz.underlying25 HI.out.1 HI.out.2.1 HI.out.2.2.1 HI.out.2.2.2 rfl (by decide) u5 _ _ rfl (hO.out.alloc _) ⟨wr.heap.size,0,none⟩ 1 1 [.string (s.extract fr s.size)] rfl rfl xU_ (fun u hu=>by simp at hu; subst hu; rfl) ?c3 ?c4 ?_) | go_in)
   case c3=>have:=hL.out; unfold maxLen; omega
   case c4=>have:=hL.out; omega
   intro v' w6 ho6 hg6;have O6:Hid (w6.ownsRow 0 9 1 v' (ps++[s.extract fr s.size]).length ((ps++[s.extract fr s.size]).map Value.string)):=y7_ ho6 (by simp) (by simp);have G6:Hid (Gro w w6 (.slice none 0 0) v'):=hG.out.trans ((Gro.of_below (zb_ _ _)).trans hg6)
   have P6:Hid (∀ p ∈ ps++[s.extract fr s.size],p.size<=s.size):=fun p hp=>by
    rw [List.mem_append,List.mem_singleton] at hp;rcases hp with hp | hp
    ·exact hP.out p hp
    ·rw [hp,yz_ s fr (by omega)]; omega
   clear ho6 hg6;go_wp2;go_ret;rcases O6.out.2 with ⟨h',hn⟩ | ⟨g,cap',cur,h',_⟩
   ·simp at hn
   ·subst h';refine ⟨g,cap',_,rfl,HE.out,P6.out,fun i hi=>?_,G6.out.below (Nat.le_refl _) (fun k hk=>absurd hk Gro.none_ne)⟩;rw [O6.out.cellAt i (by simpa using hi)];simp only [List.getElem?_map];rw [List.getElem?_eq_getElem hi];rfl
end
section
variable {g vb:Nat} {p0 p1 p2:ByteArray} {w wr':World} {x y z:Int}
def TVI (w wr:World) (vb g:Nat) (p0 p1 p2:ByteArray) (x y z:Int):Prop:=(wr.cell? ⟨w.heap.size,0,none⟩=some (.int .i64 0)∧wr.cell? ⟨w.heap.size,1,none⟩=some (.int .i64 0)∧wr.cell? ⟨w.heap.size,2,none⟩=some (.int .i64 0))∧(wr.frozen? ⟨w.heap.size,0,none⟩=false∧wr.frozen? ⟨w.heap.size,1,none⟩=false∧wr.frozen? ⟨w.heap.size,2,none⟩=false)∧(wr.cell? ⟨vb,0,none⟩=some (.int .i64 x)∧wr.cell? ⟨vb,1,none⟩=some (.int .i64 y)∧wr.cell? ⟨vb,2,none⟩=some (.int .i64 z))∧(wr.frozen? ⟨vb,0,none⟩=false∧wr.frozen? ⟨vb,1,none⟩=false∧wr.frozen? ⟨vb,2,none⟩=false)∧(wr.cell? ⟨g,0,none⟩=some (.string p0)∧wr.cell? ⟨g,1,none⟩=some (.string p1)∧wr.cell? ⟨g,2,none⟩=some (.string p2))∧Below w.heap.size w wr∧w.heap.size < vb∧vb < wr.heap.size∧g < vb
theorem TVI.next {wr:World} (h:TVI w wr vb g p0 p1 p2 x y z) (hb:Below wr.heap.size wr wr'):TVI w wr' vb g p0 p1 p2 x y z:=by
 obtain ⟨⟨a0,a1,a2⟩,⟨q0,q1,q2⟩,⟨v0,v1,v2⟩,⟨f0,f1,f2⟩,⟨c0,c1,c2⟩,hB,h1,h2,h3⟩:=h;exact ⟨⟨za_ hb a0 (by omega),za_ hb a1 (by omega),za_ hb a2 (by omega)⟩,⟨zf_ hb q0 (by omega),zf_ hb q1 (by omega),zf_ hb q2 (by omega)⟩,⟨za_ hb v0 h2,za_ hb v1 h2,za_ hb v2 h2⟩,⟨zf_ hb f0 h2,zf_ hb f1 h2,zf_ hb f2 h2⟩,⟨za_ hb c0 (by omega),za_ hb c1 (by omega),za_ hb c2 (by omega)⟩,(ze_ hB hb).out,h1,Nat.lt_of_lt_of_le h2 hb.size,h3⟩
theorem TVI.set0 {wr:World} {n:Int} (h:TVI w wr vb g p0 p1 p2 x y z):TVI w (wr.setCell ⟨vb,0,none⟩ (.int .i64 n)) vb g p0 p1 p2 n y z:=by
 have hz1:=h.2.2.2.2.2.2.1;have hz3:=h.2.2.2.2.2.2.2.2;exact ⟨⟨zg_ h.1.1 (by omega),zg_ h.1.2.1 (by omega),zg_ h.1.2.2 (by omega)⟩,⟨by rw [World.frozen?_setCell]; exact h.2.1.1,by rw [World.frozen?_setCell]; exact h.2.1.2.1,by rw [World.frozen?_setCell]; exact h.2.1.2.2⟩,⟨zI_ h.2.2.1.1,z3_ h.2.2.1.2.1 (by omega),z3_ h.2.2.1.2.2 (by omega)⟩,⟨by rw [World.frozen?_setCell]; exact h.2.2.2.1.1,by rw [World.frozen?_setCell]; exact h.2.2.2.1.2.1,by rw [World.frozen?_setCell]; exact h.2.2.2.1.2.2⟩,⟨zg_ h.2.2.2.2.1.1 (by omega),zg_ h.2.2.2.2.1.2.1 (by omega),zg_ h.2.2.2.2.1.2.2 (by omega)⟩,h.2.2.2.2.2.1.setCell (by simp; omega) _,hz1,by simpa [World.setCell] using h.2.2.2.2.2.2.2.1,hz3⟩
theorem TVI.set1 {wr:World} {n:Int} (h:TVI w wr vb g p0 p1 p2 x y z):TVI w (wr.setCell ⟨vb,1,none⟩ (.int .i64 n)) vb g p0 p1 p2 x n z:=by
 have hz1:=h.2.2.2.2.2.2.1;have hz3:=h.2.2.2.2.2.2.2.2;exact ⟨⟨zg_ h.1.1 (by omega),zg_ h.1.2.1 (by omega),zg_ h.1.2.2 (by omega)⟩,⟨by rw [World.frozen?_setCell]; exact h.2.1.1,by rw [World.frozen?_setCell]; exact h.2.1.2.1,by rw [World.frozen?_setCell]; exact h.2.1.2.2⟩,⟨z3_ h.2.2.1.1 (by omega),zI_ h.2.2.1.2.1,z3_ h.2.2.1.2.2 (by omega)⟩,⟨by rw [World.frozen?_setCell]; exact h.2.2.2.1.1,by rw [World.frozen?_setCell]; exact h.2.2.2.1.2.1,by rw [World.frozen?_setCell]; exact h.2.2.2.1.2.2⟩,⟨zg_ h.2.2.2.2.1.1 (by omega),zg_ h.2.2.2.2.1.2.1 (by omega),zg_ h.2.2.2.2.1.2.2 (by omega)⟩,h.2.2.2.2.2.1.setCell (by simp; omega) _,hz1,by simpa [World.setCell] using h.2.2.2.2.2.2.2.1,hz3⟩
theorem TVI.set2 {wr:World} {n:Int} (h:TVI w wr vb g p0 p1 p2 x y z):TVI w (wr.setCell ⟨vb,2,none⟩ (.int .i64 n)) vb g p0 p1 p2 x y n:=by
 have hz1:=h.2.2.2.2.2.2.1;have hz3:=h.2.2.2.2.2.2.2.2;exact ⟨⟨zg_ h.1.1 (by omega),zg_ h.1.2.1 (by omega),zg_ h.1.2.2 (by omega)⟩,⟨by rw [World.frozen?_setCell]; exact h.2.1.1,by rw [World.frozen?_setCell]; exact h.2.1.2.1,by rw [World.frozen?_setCell]; exact h.2.1.2.2⟩,⟨z3_ h.2.2.1.1 (by omega),z3_ h.2.2.1.2.1 (by omega),zI_ h.2.2.1.2.2⟩,⟨by rw [World.frozen?_setCell]; exact h.2.2.2.1.1,by rw [World.frozen?_setCell]; exact h.2.2.2.1.2.1,by rw [World.frozen?_setCell]; exact h.2.2.2.1.2.2⟩,⟨zg_ h.2.2.2.2.1.1 (by omega),zg_ h.2.2.2.2.1.2.1 (by omega),zg_ h.2.2.2.2.1.2.2 (by omega)⟩,h.2.2.2.2.2.1.setCell (by simp; omega) _,hz1,by simpa [World.setCell] using h.2.2.2.2.2.2.2.1,hz3⟩
theorem pa_ {l a b c:List UInt8} (h:VvT l a b c) (hp:[p0,p1,p2].map bl=cutL 46 l):Num (bl p0)∧(bl p0).length<=18:=by
 rw [xl_ h] at hp;simp only [List.map_cons,List.map_nil,List.cons.injEq,and_true] at hp;obtain ⟨h0,h1,h2⟩:=hp;have hN:=h.2.1;rw [<- h0] at hN
 exact ⟨hN.1,by
  rcases Nat.lt_or_ge (bl p0).length 6 with q | q
  ·omega
  ·have:=ue_ hN.1 q; omega⟩
theorem rC_ {l a b c:List UInt8} (h:VvT l a b c) (hp:[p0,p1,p2].map bl=cutL 46 l):nv (bl p0)<=9999:=by
 rw [xl_ h] at hp;simp only [List.map_cons,List.map_nil,List.cons.injEq,and_true] at hp;obtain ⟨h0,h1,h2⟩:=hp;have hN:=h.2.1;rw [<- h0] at hN;exact hN.2
theorem q9_ {l a b c:List UInt8} (h:VvT l a b c) (hp:[p0,p1,p2].map bl=cutL 46 l):Num (bl p1)∧(bl p1).length<=18:=by
 rw [xl_ h] at hp;simp only [List.map_cons,List.map_nil,List.cons.injEq,and_true] at hp;obtain ⟨h0,h1,h2⟩:=hp;have hN:=h.2.2.1;rw [<- h1] at hN
 exact ⟨hN.1,by
  rcases Nat.lt_or_ge (bl p1).length 6 with q | q
  ·omega
  ·have:=ue_ hN.1 q; omega⟩
theorem rB_ {l a b c:List UInt8} (h:VvT l a b c) (hp:[p0,p1,p2].map bl=cutL 46 l):nv (bl p1)<=9999:=by
 rw [xl_ h] at hp;simp only [List.map_cons,List.map_nil,List.cons.injEq,and_true] at hp;obtain ⟨h0,h1,h2⟩:=hp;have hN:=h.2.2.1;rw [<- h1] at hN;exact hN.2
theorem q8_ {l a b c:List UInt8} (h:VvT l a b c) (hp:[p0,p1,p2].map bl=cutL 46 l):Num (bl p2)∧(bl p2).length<=18:=by
 rw [xl_ h] at hp;simp only [List.map_cons,List.map_nil,List.cons.injEq,and_true] at hp;obtain ⟨h0,h1,h2⟩:=hp;have hN:=h.2.2.2;rw [<- h2] at hN
 exact ⟨hN.1,by
  rcases Nat.lt_or_ge (bl p2).length 6 with q | q
  ·omega
  ·have:=ue_ hN.1 q; omega⟩
theorem rA_ {l a b c:List UInt8} (h:VvT l a b c) (hp:[p0,p1,p2].map bl=cutL 46 l):nv (bl p2)<=9999:=by
 rw [xl_ h] at hp;simp only [List.map_cons,List.map_nil,List.cons.injEq,and_true] at hp;obtain ⟨h0,h1,h2⟩:=hp;have hN:=h.2.2.2;rw [<- h2] at hN;exact hN.2
def GPt (p:ByteArray) (n:Int):Prop:=Num (bl p)∧nv (bl p)<=9999∧n=nv (bl p)
def TvP (w:World) (s:ByteArray) (e:Ending) (w':World):Prop:=(∃ a b c,VvT (bl s) a b c∧e=.returned (.tuple #[.agg #[.int .i64 (nv a),.int .i64 (nv b),.int .i64 (nv c)],.bool true])∧Below w.heap.size w w')∨((¬ ∃ a b c,VvT (bl s) a b c)∧e=.returned (.tuple #[.agg #[.int .i64 0,.int .i64 0,.int .i64 0],.bool false])∧Below w.heap.size w w')
theorem tS_ (s:ByteArray) (w:World) (hs:s.size<=1048576) :
  Calls Tryz.prog 207 #[.string s] w fun e w'=>TvP w s e w':=by
 go_enter Tryz.func207,Tryz.ntmps207;go_wp2_with fail;refine (uz_ s 46 _ hs (by omega)).mono ?_;rintro e w1 ⟨g,cap,ps,rfl,hPS,hSZ,hC,hb⟩;have HB1:Hid (Below w.heap.size w w1):=(zb_ _ _).trans (hb.mono (by simp));have r0:=za_ hb (b:=w.heap.size) (o:=0) (v:=.int .i64 0) (by go_simp) (by simp);have r1:=za_ hb (b:=w.heap.size) (o:=1) (v:=.int .i64 0) (by go_simp) (by simp);have r2:=za_ hb (b:=w.heap.size) (o:=2) (v:=.int .i64 0) (by go_simp) (by simp);have q0:=zf_ hb (b:=w.heap.size) (o:=0) (by go_simp) (by simp);have q1:=zf_ hb (b:=w.heap.size) (o:=1) (by go_simp) (by simp);have q2:=zf_ hb (b:=w.heap.size) (o:=2) (by go_simp) (by simp);have hz:w.heap.size < w1.heap.size:=by have:=hb.size; simp at this; omega
 clear hb;have HPS0:Hid (ps.map bl=cutL 46 (bl s)):=hPS;by_cases h3:ps.length=3
 ·obtain ⟨p0,p1,p2,rfl⟩:∃ p0 p1 p2,ps=[p0,p1,p2]:=by
   match ps,h3 with
   | [a,b,c],_=>exact ⟨a,b,c,rfl⟩
  have k0:=hC 0 (by simp);have k1:=hC 1 (by simp);have k2:=hC 2 (by simp);simp only [List.getElem_cons_zero,List.getElem_cons_succ] at k0 k1 k2;have z0:=hSZ p0 (by simp);have z1:=hSZ p1 (by simp);have z2:=hSZ p2 (by simp);have HPS:Hid ([p0,p1,p2].map bl=cutL 46 (bl s)):=HPS0.out;have hg1:g < w1.heap.size:=World.block_lt_of_cell? w1 ⟨g,0,none⟩ k0;have TV0:Hid (TVI w (w1.alloc (.cells #[.int .i64 0,.int .i64 0,.int .i64 0] 35)) w1.heap.size g p0 p1 p2 0 0 0):=⟨⟨zL_ r0 hz,zL_ r1 hz,zL_ r2 hz⟩,⟨z0_ q0 hz,z0_ q1 hz,z0_ q2 hz⟩,⟨by go_simp,by go_simp,by go_simp⟩,⟨by go_simp,by go_simp,by go_simp⟩,⟨zL_ k0 hg1,zL_ k1 hg1,zL_ k2 hg1⟩,(ze_ HB1 (zb_ _ _)).out,hz,by simp,hg1⟩;clear hC hSZ hPS HPS0 h3 k0 k1 k2 r0 r1 r2 q0 q1 q2 HB1 hz hg1;simp only [List.length_cons,List.length_nil,Nat.zero_add];go_wp2;generalize w1.alloc (.cells #[.int .i64 0,.int .i64 0,.int .i64 0] 35)=W1 at *;generalize w1.heap.size=vb at *;clear w1;go_loopw [6] (fun s6 wr=>∃ (i:Nat) (x y z:Int),i<=3∧s6=.int .i64 i∧TVI w wr vb g p0 p1 p2 x y z∧(0 < i->GPt p0 x)∧(1 < i->GPt p1 y)∧(2 < i->GPt p2 z)∧(i < 1->x=0)∧(i < 2->y=0)∧(i < 3->z=0)) (fun s6 _=>3 - (intOf s6).toNat)
  case atStart=>exact ⟨0,0,0,0,by omega,rfl,TV0.out,fun h=>by omega,fun h=>by omega,fun h=>by omega,fun _=>rfl,fun _=>rfl,fun _=>rfl⟩
  case round=>
   obtain ⟨i,x,y,z,hi,rfl,hTV,g0,g1,g2,e0,e1,e2⟩:=hrel;have hp4:i=0∨i=1∨i=2∨i=3:=by omega
   rcases hp4 with rfl | rfl | rfl | rfl
   ·obtain rfl:=e0 (by omega);obtain rfl:=e1 (by omega);obtain rfl:=e2 (by omega);have TV:=hm_ hTV;clear hTV g0 g1 g2 e0 e1 e2 TV0;have c0:=TV.out.2.2.2.2.1.1;by_cases hN:Num (bl p0)∧(bl p0).length<=18
    ·obtain ⟨v,hv⟩:∃ v,v=nv (bl p0):=⟨_,rfl⟩;have Q0:=yw_ p0;rw [<- hv] at Q0;have HQ:Hid (∀ W:World,Calls Tryz.prog 186 #[.string p0] W fun e w'=>e=.returned (.tuple #[.int .i64 v,.bool true])∧Below W.heap.size W w'):=fun W=>Q0 W (by omega) hN
     have HV:Hid (v=nv (bl p0)):=hv;have HNN:Hid (Num (bl p0)):=hN.1;clear Q0 hv hN;go_wp2_with fail;refine (HQ.out _).mono ?_;rintro e w3 ⟨rfl,hb⟩;have TV3:=hm_ (TV.out.next hb);clear hb c0;by_cases hb9:9999 < v
     ·have HF:Hid (¬ ∃ a b c,VvT (bl s) a b c):=fun ⟨a,b,c,hV⟩=>by have:=rC_ hV HPS.out; rw [<- HV.out] at this; omega
      obtain ⟨⟨r0,r1,r2⟩,⟨q0,q1,q2⟩,⟨v0,v1,v2⟩,_,_,hB,hz1,hz2,_⟩:=TV3.out;have HB:Hid (Below w.heap.size w _):=hB;clear hB;go_wp2;(try rw [Exit.noGoto_ret]);refine bodyPost_ret (v:=.tuple #[.agg #[.int .i64 0,.int .i64 0,.int .i64 0],.bool false]) (by simp [results,Tryz.results207,go_sem,r0,r1,r2,q0,q1,q2]) rfl (.inr ⟨HF.out,rfl,?_⟩);exact ((HB.out.setCell (by simp) _).setCell (by simp) _).setCell (by simp) _
     ·obtain ⟨_,_,⟨v0,v1,v2⟩,⟨p0',p1',p2'⟩,_,_,hz1,hz2,_⟩:=TV3.out;have TV4:Hid (TVI w (w3.setCell ⟨vb,0,none⟩ (.int .i64 v)) vb g p0 p1 p2 v 0 0):=TV3.out.set0;have GP:Hid (GPt p0 v):=⟨HNN.out,by rw [<- HV.out]; omega,HV.out⟩;go_wp2
      go_roundw
      case rel=>first | exact ⟨1,v,0,0,by omega,by go_num,TV4.out,fun _=>GP.out,fun h=>by omega,fun h=>by omega,fun h=>by omega,fun _=>rfl,fun _=>rfl⟩ | ((repeat apply Exists.intro); exact ⟨⟨1,v,0,0,by omega,by go_num,TV4.out,fun _=>GP.out,fun h=>by omega,fun h=>by omega,fun h=>by omega,fun _=>rfl,fun _=>rfl⟩,rfl⟩)
      case measure=>simp [intOf]
    ·have HQ:Hid (∀ W:World,Calls Tryz.prog 186 #[.string p0] W fun e w'=>N3P W e w'):=fun W=>xd_ p0 W (by omega) hN
     have HNN:=hm_ hN;clear hN;go_wp2_with fail;refine (HQ.out _).mono ?_;rintro e w3 ⟨v,rfl,hb⟩;have TV3:=hm_ (TV.out.next hb);clear hb c0;have HF:Hid (¬ ∃ a b c,VvT (bl s) a b c):=fun ⟨a,b,c,hV⟩=>HNN.out (pa_ hV HPS.out)
     obtain ⟨⟨r0,r1,r2⟩,⟨q0,q1,q2⟩,⟨v0,v1,v2⟩,_,_,hB,hz1,hz2,_⟩:=TV3.out;have HB:Hid (Below w.heap.size w _):=hB;clear hB;go_wp2;(try rw [Exit.noGoto_ret]);refine bodyPost_ret (v:=.tuple #[.agg #[.int .i64 0,.int .i64 0,.int .i64 0],.bool false]) (by simp [results,Tryz.results207,go_sem,r0,r1,r2,q0,q1,q2]) rfl (.inr ⟨HF.out,rfl,?_⟩);exact ((HB.out.setCell (by simp) _).setCell (by simp) _).setCell (by simp) _
   ·obtain rfl:=e1 (by omega);obtain rfl:=e2 (by omega);have TV:=hm_ hTV;have HP0:Hid (GPt p0 x):=g0 (by omega);clear hTV g0 g1 g2 e0 e1 e2 TV0;have c1:=TV.out.2.2.2.2.1.2.1;by_cases hN:Num (bl p1)∧(bl p1).length<=18
    ·obtain ⟨v,hv⟩:∃ v,v=nv (bl p1):=⟨_,rfl⟩;have Q0:=yw_ p1;rw [<- hv] at Q0;have HQ:Hid (∀ W:World,Calls Tryz.prog 186 #[.string p1] W fun e w'=>e=.returned (.tuple #[.int .i64 v,.bool true])∧Below W.heap.size W w'):=fun W=>Q0 W (by omega) hN
     have HV:Hid (v=nv (bl p1)):=hv;have HNN:Hid (Num (bl p1)):=hN.1;clear Q0 hv hN;go_wp2_with fail;refine (HQ.out _).mono ?_;rintro e w3 ⟨rfl,hb⟩;have TV3:=hm_ (TV.out.next hb);clear hb c1;by_cases hb9:9999 < v
     ·have HF:Hid (¬ ∃ a b c,VvT (bl s) a b c):=fun ⟨a,b,c,hV⟩=>by have:=rB_ hV HPS.out; rw [<- HV.out] at this; omega
      obtain ⟨⟨r0,r1,r2⟩,⟨q0,q1,q2⟩,⟨v0,v1,v2⟩,_,_,hB,hz1,hz2,_⟩:=TV3.out;have HB:Hid (Below w.heap.size w _):=hB;clear hB;go_wp2;(try rw [Exit.noGoto_ret]);refine bodyPost_ret (v:=.tuple #[.agg #[.int .i64 0,.int .i64 0,.int .i64 0],.bool false]) (by simp [results,Tryz.results207,go_sem,r0,r1,r2,q0,q1,q2]) rfl (.inr ⟨HF.out,rfl,?_⟩);exact ((HB.out.setCell (by simp) _).setCell (by simp) _).setCell (by simp) _
     ·obtain ⟨_,_,⟨v0,v1,v2⟩,⟨p0',p1',p2'⟩,_,_,hz1,hz2,_⟩:=TV3.out;have TV4:Hid (TVI w (w3.setCell ⟨vb,1,none⟩ (.int .i64 v)) vb g p0 p1 p2 x v 0):=TV3.out.set1;have GP:Hid (GPt p1 v):=⟨HNN.out,by rw [<- HV.out]; omega,HV.out⟩;go_wp2
      go_roundw
      case rel=>first | exact ⟨2,x,v,0,by omega,by go_num,TV4.out,fun _=>HP0.out,fun _=>GP.out,fun h=>by omega,fun h=>by omega,fun h=>by omega,fun _=>rfl⟩ | ((repeat apply Exists.intro); exact ⟨⟨2,x,v,0,by omega,by go_num,TV4.out,fun _=>HP0.out,fun _=>GP.out,fun h=>by omega,fun h=>by omega,fun h=>by omega,fun _=>rfl⟩,rfl⟩)
      case measure=>simp [intOf]
    ·have HQ:Hid (∀ W:World,Calls Tryz.prog 186 #[.string p1] W fun e w'=>N3P W e w'):=fun W=>xd_ p1 W (by omega) hN
     have HNN:=hm_ hN;clear hN;go_wp2_with fail;refine (HQ.out _).mono ?_;rintro e w3 ⟨v,rfl,hb⟩;have TV3:=hm_ (TV.out.next hb);clear hb c1;have HF:Hid (¬ ∃ a b c,VvT (bl s) a b c):=fun ⟨a,b,c,hV⟩=>HNN.out (q9_ hV HPS.out)
     obtain ⟨⟨r0,r1,r2⟩,⟨q0,q1,q2⟩,⟨v0,v1,v2⟩,_,_,hB,hz1,hz2,_⟩:=TV3.out;have HB:Hid (Below w.heap.size w _):=hB;clear hB;go_wp2;(try rw [Exit.noGoto_ret]);refine bodyPost_ret (v:=.tuple #[.agg #[.int .i64 0,.int .i64 0,.int .i64 0],.bool false]) (by simp [results,Tryz.results207,go_sem,r0,r1,r2,q0,q1,q2]) rfl (.inr ⟨HF.out,rfl,?_⟩);exact ((HB.out.setCell (by simp) _).setCell (by simp) _).setCell (by simp) _
   ·obtain rfl:=e2 (by omega);have TV:=hm_ hTV;have HP0:Hid (GPt p0 x):=g0 (by omega);have HP1:Hid (GPt p1 y):=g1 (by omega);clear hTV g0 g1 g2 e0 e1 e2 TV0;have c2:=TV.out.2.2.2.2.1.2.2;by_cases hN:Num (bl p2)∧(bl p2).length<=18
    ·obtain ⟨v,hv⟩:∃ v,v=nv (bl p2):=⟨_,rfl⟩;have Q0:=yw_ p2;rw [<- hv] at Q0;have HQ:Hid (∀ W:World,Calls Tryz.prog 186 #[.string p2] W fun e w'=>e=.returned (.tuple #[.int .i64 v,.bool true])∧Below W.heap.size W w'):=fun W=>Q0 W (by omega) hN
     have HV:Hid (v=nv (bl p2)):=hv;have HNN:Hid (Num (bl p2)):=hN.1;clear Q0 hv hN;go_wp2_with fail;refine (HQ.out _).mono ?_;rintro e w3 ⟨rfl,hb⟩;have TV3:=hm_ (TV.out.next hb);clear hb c2;by_cases hb9:9999 < v
     ·have HF:Hid (¬ ∃ a b c,VvT (bl s) a b c):=fun ⟨a,b,c,hV⟩=>by have:=rA_ hV HPS.out; rw [<- HV.out] at this; omega
      obtain ⟨⟨r0,r1,r2⟩,⟨q0,q1,q2⟩,⟨v0,v1,v2⟩,_,_,hB,hz1,hz2,_⟩:=TV3.out;have HB:Hid (Below w.heap.size w _):=hB;clear hB;go_wp2;(try rw [Exit.noGoto_ret]);refine bodyPost_ret (v:=.tuple #[.agg #[.int .i64 0,.int .i64 0,.int .i64 0],.bool false]) (by simp [results,Tryz.results207,go_sem,r0,r1,r2,q0,q1,q2]) rfl (.inr ⟨HF.out,rfl,?_⟩);exact ((HB.out.setCell (by simp) _).setCell (by simp) _).setCell (by simp) _
     ·obtain ⟨_,_,⟨v0,v1,v2⟩,⟨p0',p1',p2'⟩,_,_,hz1,hz2,_⟩:=TV3.out;have TV4:Hid (TVI w (w3.setCell ⟨vb,2,none⟩ (.int .i64 v)) vb g p0 p1 p2 x y v):=TV3.out.set2;have GP:Hid (GPt p2 v):=⟨HNN.out,by rw [<- HV.out]; omega,HV.out⟩;go_wp2
      go_roundw
      case rel=>first | exact ⟨3,x,y,v,by omega,by go_num,TV4.out,fun _=>HP0.out,fun _=>HP1.out,fun _=>GP.out,fun h=>by omega,fun h=>by omega,fun h=>by omega⟩ | ((repeat apply Exists.intro); exact ⟨⟨3,x,y,v,by omega,by go_num,TV4.out,fun _=>HP0.out,fun _=>HP1.out,fun _=>GP.out,fun h=>by omega,fun h=>by omega,fun h=>by omega⟩,rfl⟩)
      case measure=>simp [intOf]
    ·have HQ:Hid (∀ W:World,Calls Tryz.prog 186 #[.string p2] W fun e w'=>N3P W e w'):=fun W=>xd_ p2 W (by omega) hN
     have HNN:=hm_ hN;clear hN;go_wp2_with fail;refine (HQ.out _).mono ?_;rintro e w3 ⟨v,rfl,hb⟩;have TV3:=hm_ (TV.out.next hb);clear hb c2;have HF:Hid (¬ ∃ a b c,VvT (bl s) a b c):=fun ⟨a,b,c,hV⟩=>HNN.out (q8_ hV HPS.out)
     obtain ⟨⟨r0,r1,r2⟩,⟨q0,q1,q2⟩,⟨v0,v1,v2⟩,_,_,hB,hz1,hz2,_⟩:=TV3.out;have HB:Hid (Below w.heap.size w _):=hB;clear hB;go_wp2;(try rw [Exit.noGoto_ret]);refine bodyPost_ret (v:=.tuple #[.agg #[.int .i64 0,.int .i64 0,.int .i64 0],.bool false]) (by simp [results,Tryz.results207,go_sem,r0,r1,r2,q0,q1,q2]) rfl (.inr ⟨HF.out,rfl,?_⟩);exact ((HB.out.setCell (by simp) _).setCell (by simp) _).setCell (by simp) _
   ·have HP0:Hid (GPt p0 x):=g0 (by omega);have HP1:Hid (GPt p1 y):=g1 (by omega);have HP2:Hid (GPt p2 z):=g2 (by omega);have HF:Hid (VvT (bl s) (bl p0) (bl p1) (bl p2)):=o1_ HPS.out.symm ⟨HP0.out.1,HP0.out.2.1⟩ ⟨HP1.out.1,HP1.out.2.1⟩ ⟨HP2.out.1,HP2.out.2.1⟩;obtain ⟨⟨r0,r1,r2⟩,⟨q0,q1,q2⟩,⟨v0,v1,v2⟩,_,_,hB,hz1,hz2,_⟩:=hTV;have HB:Hid (Below w.heap.size w _):=hB;clear hB g0 g1 g2 e0 e1 e2 TV0;go_wp2;(try rw [Exit.noGoto_ret]);refine bodyPost_ret (v:=.tuple #[.agg #[.int .i64 x,.int .i64 y,.int .i64 z],.bool true]) (by simp [results,Tryz.results207,go_sem,r0,r1,r2,q0,q1,q2]) rfl (.inl ⟨_,_,_,HF.out,by rw [<- HP0.out.2.2,<- HP1.out.2.2,<- HP2.out.2.2],?_⟩);exact ((HB.out.setCell (by simp) _).setCell (by simp) _).setCell (by simp) _
 ·have HF:Hid (¬ ∃ a b c,VvT (bl s) a b c):=fun ⟨a,b,c,hV⟩=>h3 (by
   have h1:=HPS0.out;rw [xl_ hV] at h1
   have:=congrArg List.length h1
   simpa using this)
  have hne:((ps.length:Int) != 3)=true:=by rw [bne_iff_ne]; omega
  clear hC hSZ hPS HPS0 h3;go_wp2;refine bodyPost_ret (v:=.tuple #[.agg #[.int .i64 0,.int .i64 0,.int .i64 0],.bool false]) (by simp [results,Tryz.results207,go_sem,r0,r1,r2,q0,q1,q2,hz]) rfl (.inr ⟨HF.out,rfl,?_⟩);exact (((HB1.out.setCell (by simp) _).setCell (by simp) _).setCell (by simp) _).alloc (by simpa [World.setCell] using Nat.le_of_lt hz) _
end
section
variable {W w:World} {u0 u1 u2 u3:Value}
theorem wA_ (h:Below w.heap.size w W):Below w.heap.size w ((((W.setCell ⟨w.heap.size,0,none⟩ u0).setCell ⟨w.heap.size,1,none⟩ u1).setCell ⟨w.heap.size,2,none⟩ u2).setCell ⟨w.heap.size,3,none⟩ u3):=
 (((h.setCell (by simp) _).setCell (by simp) _).setCell (by simp) _).setCell (by simp) _
theorem pB_ {b:List UInt8} (h:Num b):∀ q,b≠q++[33]:=fun q e=>by
 have:=yF_ h 33 (by decide) 33 (by rw [e]; simp)
 exact this rfl
theorem wd_ {C:List UInt8} {x:Sib}:SibS (C++[33]) x↔tdR C∧x=⟨(tdV C).1,(tdV C).2,0,true⟩:=by
 constructor
 ·rintro (⟨D,e,h,hx⟩ | ⟨a,b,e,h,⟨hn,_⟩,hx⟩)
  ·have:=List.append_inj_left' e rfl
   subst this;exact ⟨h,hx⟩
  ·exfalso;rcases List.eq_nil_or_concat b with rfl | ⟨q,d,rfl⟩
   ·exact hn.1 rfl
   ·rw [List.concat_eq_append] at hn e;have e2:C++[33]=(a++61 :: q)++[d]:=by rw [e]; simp
    have:=(List.append_inj' e2 rfl).2
    simp only [List.cons.injEq,and_true] at this;subst this;exact pB_ hn q rfl
 ·rintro ⟨h,rfl⟩;exact .inl ⟨C,rfl,h,rfl⟩
theorem wc_ {l a b:List UInt8} (h:cutL 61 l=[a,b]) (hl:∀ q,l≠q++[33]) {x:Sib}:SibS l x↔(tdR a∧(Num b∧b.length<=18))∧x=⟨(tdV a).1,(tdV a).2,nv b,false⟩:=by
 constructor
 ·rintro (⟨D,e,_,_⟩ | ⟨a',b',e,h1,h2,hx⟩)
  ·exact absurd e (hl D)
  ·rw [e,yH_ 61 a' b' (wb_ h1 61 (by decide) (by decide)),yT_ 61 b' (yF_ h2.1 61 (by decide))] at h;simp only [List.cons.injEq,and_true] at h;obtain ⟨rfl,rfl⟩:=h;exact ⟨⟨h1,h2⟩,hx⟩
 ·rintro ⟨⟨h1,h2⟩,hx⟩;refine .inr ⟨a,b,?_,h1,h2,hx⟩;rw [<- wn_ 61 l,h];rfl
theorem pj_ {l:List UInt8} (h:¬ (cutL 61 l).length=2) (hl:∀ q,l≠q++[33]) {x:Sib}:¬ SibS l x:=by
 rintro (⟨D,e,_,_⟩ | ⟨a',b',e,h1,h2,hx⟩)
 ·exact hl D e
 ·rw [e,yH_ 61 a' b' (wb_ h1 61 (by decide) (by decide)),yT_ 61 b' (yF_ h2.1 61 (by decide))] at h;exact h rfl
def LsP (w:World) (s:ByteArray) (e:Ending) (w':World):Prop:=
 ∃ (ok:Bool) (x:Sib),e=.returned (.tuple #[.agg #[.int .i64 x.p,.int .i64 x.n,.int .i64 x.v,.bool x.d],.bool ok])∧(ok=true->SibS (bl s) x)∧(ok=false->∀ x',¬ SibS (bl s) x')∧Below w.heap.size w w'
theorem tC_ (s:ByteArray) (w:World) (hs:s.size<=1048576) :
  Calls Tryz.prog 208 #[.string s] w fun e w'=>LsP w s e w':=by
 by_cases hD:∃ h:0 < s.size,(s[s.size - 1]'(by omega)).toNat=33
 ·obtain ⟨hs0,hc⟩:=hD
  have e0:bl s=bl (s.extract 0 (s.size - 1))++[33]:=by
   rw [nM_ s 0 (s.size - 1) (by omega) (by omega)];have h1:=(List.take_append_drop (s.size - 1) (bl s)).symm;rw [yC_ s (s.size - 1) (by omega),show s.size - 1+1=s.size by omega,List.drop_eq_nil_of_le (by rw [zF_]; omega)] at h1;rw [h1]
   have:s[s.size - 1]=33:=UInt8.toNat_inj.1 (by simpa using hc)
   simp [this,zF_]
  have hsz:(s.extract 0 (s.size - 1)).size<=1048576:=by rw [qF_ s 0 _ (by omega) (by omega)]; omega
  have hE:=xx_ s hs0;have k1:(s.size:Int) - 1=((s.size - 1:Nat):Int):=by omega
  obtain ⟨n,hn⟩:∃ n:Nat,s.size - 1=n:=⟨_,rfl⟩;rw [hn] at k1 hsz e0;have k2:IntKind.i64.wrap (n:Int)=n:=by rw [IntKind.wrap_i64]; omega
  have k3:n < s.size:=by omega
  have k4:∀ h:n < s.size,((s[n]'h).toNat:Int)=33:=fun h=>by subst hn; exact_mod_cast hc
  have k5:(n:Int)<=(s.size:Int):=by omega
  have k6:(0:Int)<=(n:Int):=by omega
  have k7:(n:Int) < (s.size:Int):=by omega
  clear hc hn;by_cases h:tdR (bl (s.extract 0 n))
  ·obtain ⟨a,ha⟩:∃ a,a=(tdV (bl (s.extract 0 n))).1:=⟨_,rfl⟩;obtain ⟨b,hb⟩:∃ b,b=(tdV (bl (s.extract 0 n))).2:=⟨_,rfl⟩;have HT:Hid (∀ W:World,Calls Tryz.prog 241 #[.string (s.extract 0 n)] W fun e w'=>e=.returned (.tuple #[.agg #[.int .i64 a,.int .i64 b],.bool true])∧Below W.heap.size W w'):=fun W=>by rw [ha,hb]; exact uE_ _ W hsz h
   have HY:Hid (SibS (bl s) ⟨a,b,0,true⟩):=by show SibS _ _;  rw [e0,ha,hb]; exact wd_.2 ⟨h,rfl⟩
   clear ha hb e0 h;go_enter Tryz.func208,Tryz.ntmps208;go_wp2_with fail;refine (HT.out _).mono ?_;rintro e w1 ⟨rfl,hb⟩;have HB:Hid (Below w.heap.size w w1):=(zb_ _ _).trans (hb.mono (by simp));have r0:=za_ hb (b:=w.heap.size) (o:=0) (v:=.int .i64 0) (by go_simp) (by simp);have q0:=zf_ hb (b:=w.heap.size) (o:=0) (by go_simp) (by simp);have r1:=za_ hb (b:=w.heap.size) (o:=1) (v:=.int .i64 0) (by go_simp) (by simp);have q1:=zf_ hb (b:=w.heap.size) (o:=1) (by go_simp) (by simp);have r2:=za_ hb (b:=w.heap.size) (o:=2) (v:=.int .i64 0) (by go_simp) (by simp);have q2:=zf_ hb (b:=w.heap.size) (o:=2) (by go_simp) (by simp);have r3:=za_ hb (b:=w.heap.size) (o:=3) (v:=.bool false) (by go_simp) (by simp);have q3:=zf_ hb (b:=w.heap.size) (o:=3) (by go_simp) (by simp);have hz:w.heap.size < w1.heap.size:=by have:=hb.size; simp at this; omega
   clear hb HT;go_wp2;exact bodyPost_ret (v:=.tuple #[.agg #[.int .i64 a,.int .i64 b,.int .i64 0,.bool true],.bool true]) (by simp [results,Tryz.results208,go_sem,r0,r1,r2,r3,q0,q1,q2,q3,hz]) rfl ⟨true,⟨a,b,0,true⟩,rfl,(fun _=>HY.out),(fun h=>by cases h),(wA_ HB.out).alloc (by simpa [World.setCell] using Nat.le_of_lt hz) _⟩
  ·have HT:Hid (∀ W:World,Calls Tryz.prog 241 #[.string (s.extract 0 n)] W fun e w'=>e=.returned (.tuple #[.agg #[.int .i64 0,.int .i64 0],.bool false])∧Below W.heap.size W w'):=fun W=>sg_ _ W hsz h
   have HN:Hid (∀ x',¬ SibS (bl s) x'):=fun x' hx=>h (by rw [e0] at hx; exact (wd_.1 hx).1)
   clear e0 h;go_enter Tryz.func208,Tryz.ntmps208;go_wp2_with fail;refine (HT.out _).mono ?_;rintro e w1 ⟨rfl,hb⟩;have HB:Hid (Below w.heap.size w w1):=(zb_ _ _).trans (hb.mono (by simp));have r0:=za_ hb (b:=w.heap.size) (o:=0) (v:=.int .i64 0) (by go_simp) (by simp);have q0:=zf_ hb (b:=w.heap.size) (o:=0) (by go_simp) (by simp);have r1:=za_ hb (b:=w.heap.size) (o:=1) (v:=.int .i64 0) (by go_simp) (by simp);have q1:=zf_ hb (b:=w.heap.size) (o:=1) (by go_simp) (by simp);have r2:=za_ hb (b:=w.heap.size) (o:=2) (v:=.int .i64 0) (by go_simp) (by simp);have q2:=zf_ hb (b:=w.heap.size) (o:=2) (by go_simp) (by simp);have r3:=za_ hb (b:=w.heap.size) (o:=3) (v:=.bool false) (by go_simp) (by simp);have q3:=zf_ hb (b:=w.heap.size) (o:=3) (by go_simp) (by simp);have hz:w.heap.size < w1.heap.size:=by have:=hb.size; simp at this; omega
   clear hb HT;go_wp2;exact bodyPost_ret (v:=.tuple #[.agg #[.int .i64 0,.int .i64 0,.int .i64 0,.bool true],.bool false]) (by simp [results,Tryz.results208,go_sem,r0,r1,r2,r3,q0,q1,q2,q3,hz]) rfl ⟨false,⟨0,0,0,true⟩,rfl,(fun h=>by cases h),(fun _=>HN.out),(wA_ HB.out).alloc (by simpa [World.setCell] using Nat.le_of_lt hz) _⟩
 ·have HL:Hid (∀ q,bl s≠q++[33]):=fun q e=>by
   have hl:=zF_ s;rw [e] at hl;simp at hl;refine hD ⟨by omega,?_⟩;have h1:=yC_ s (s.size - 1) (by omega);rw [e,List.drop_left' (by omega)] at h1;simp only [List.cons.injEq] at h1;rw [<- h1.1];rfl
  have CT:Hid (∀ W:World,Calls Tryz.prog 185 #[.string s,.int .u8 61] W fun e w'=>CutP W s 61 e w'):=fun W=>uz_ s 61 W hs (by omega)
  have key:∀ (Q:Prop),((s.size=0)->Q)->((h:0 < s.size)->(¬ (s[s.size - 1]'(by omega)).toNat=33)->Q)->Q:=fun Q h1 h2=>by
   rcases Nat.eq_zero_or_pos s.size with e | e
   ·exact h1 e
   ·exact h2 e (fun h=>hD ⟨e,h⟩)
  clear hD;have MAIN:∀ w1:World,True:=fun _=>trivial
  refine key _ (fun h0=>?_) (fun hs0 hc=>?_)
  focus
   have hE:=ws_ s h0;clear key MAIN
  rotate_left
  focus
   have hE:=xx_ s hs0;have k1:(s.size:Int) - 1=((s.size - 1:Nat):Int):=by omega
   obtain ⟨n,hn⟩:∃ n:Nat,s.size - 1=n:=⟨_,rfl⟩;rw [hn] at k1;have k2:IntKind.i64.wrap (n:Int)=n:=by rw [IntKind.wrap_i64]; omega
   have k3:n < s.size:=by omega
   obtain ⟨c,hcc⟩:∃ c:Nat,c=(s[n]'k3).toNat:=⟨_,rfl⟩;have k4:∀ h:n < s.size,((s[n]'h).toNat:Int)=(c:Int):=fun h=>by rw [hcc]
   have k5:¬ (c:Int)=33:=fun h=>hc (by subst hn; rw [<- hcc]; exact_mod_cast h)
   have k6:(0:Int)<=(n:Int):=by omega
   have k7:(n:Int) < (s.size:Int):=by omega
   clear hc hn hcc key MAIN
  rotate_left
  all_goals
   go_enter Tryz.func208,Tryz.ntmps208;go_wp2_with fail;refine (CT.out _).mono ?_;rintro e w1 ⟨g,cap,ps,rfl,hPS,hSZ,hC,hb⟩;have HB:Hid (Below w.heap.size w w1):=(zb_ _ _).trans (hb.mono (by simp));have r0:=za_ hb (b:=w.heap.size) (o:=0) (v:=.int .i64 0) (by go_simp) (by simp);have q0:=zf_ hb (b:=w.heap.size) (o:=0) (by go_simp) (by simp);have r1:=za_ hb (b:=w.heap.size) (o:=1) (v:=.int .i64 0) (by go_simp) (by simp);have q1:=zf_ hb (b:=w.heap.size) (o:=1) (by go_simp) (by simp);have r2:=za_ hb (b:=w.heap.size) (o:=2) (v:=.int .i64 0) (by go_simp) (by simp);have q2:=zf_ hb (b:=w.heap.size) (o:=2) (by go_simp) (by simp);have r3:=za_ hb (b:=w.heap.size) (o:=3) (v:=.bool false) (by go_simp) (by simp);have q3:=zf_ hb (b:=w.heap.size) (o:=3) (by go_simp) (by simp);have hz:w.heap.size < w1.heap.size:=by have:=hb.size; simp at this; omega
   clear hb CT;by_cases h2:ps.length=2
   ·obtain ⟨p0,p1,rfl⟩:∃ p0 p1,ps=[p0,p1]:=by
     match ps,h2 with
     | [a,b],_=>exact ⟨a,b,rfl⟩
    have k0:=hC 0 (by simp);have K1:Hid _:=hC 1 (by simp);simp only [List.getElem_cons_zero,List.getElem_cons_succ] at k0 K1;have z0:p0.size<=1048576:=by have:=hSZ p0 (by simp); omega
    have z1:p1.size<=1048576:=by have:=hSZ p1 (by simp); omega
    have G1:Hid (g < w1.heap.size):=World.block_lt_of_cell? w1 ⟨g,0,none⟩ k0;have HP:=hm_ hPS.symm;clear hC hSZ hPS h2;simp only [List.length_cons,List.length_nil,Nat.zero_add];go_wp2_with fail;have K0:Hid True:=trivial;clear k0;by_cases hd:tdR (bl p0)
    ·obtain ⟨a,ha⟩:∃ a,a=(tdV (bl p0)).1:=⟨_,rfl⟩;obtain ⟨b,hb⟩:∃ b,b=(tdV (bl p0)).2:=⟨_,rfl⟩;have HTD:Hid (∀ W:World,Calls Tryz.prog 241 #[.string p0] W fun e w'=>e=.returned (.tuple #[.agg #[.int .i64 a,.int .i64 b],.bool true])∧Below W.heap.size W w'):=fun W=>by rw [ha,hb]; exact uE_ _ W z0 hd
     by_cases hn:Num (bl p1)∧(bl p1).length<=18
     ·obtain ⟨v,hv⟩:∃ v,v=nv (bl p1):=⟨_,rfl⟩;have HTN:Hid (∀ W:World,Calls Tryz.prog 186 #[.string p1] W fun e w'=>e=.returned (.tuple #[.int .i64 v,.bool true])∧Below W.heap.size W w'):=fun W=>by rw [hv]; exact yw_ _ W z1 hn
      have HY:Hid (SibS (bl s) ⟨a,b,v,false⟩):=by show SibS _ _;  rw [ha,hb,hv]; exact (wc_ HP.out HL.out).2 ⟨⟨hd,hn⟩,rfl⟩
      clear ha hb hv hd hn HP HL;refine (HTD.out _).mono ?_;rintro e w2 ⟨rfl,hb⟩;have k1:=za_ hb K1.out G1.out;replace HB:=ze_ HB hb;replace r0:=za_ hb (r0) (by first | omega | (simp; omega));replace q0:=zf_ hb (q0) (by first | omega | (simp; omega));replace r1:=za_ hb (r1) (by first | omega | (simp; omega));replace q1:=zf_ hb (q1) (by first | omega | (simp; omega));replace r2:=za_ hb (r2) (by first | omega | (simp; omega));replace q2:=zf_ hb (q2) (by first | omega | (simp; omega));replace r3:=za_ hb (r3) (by first | omega | (simp; omega));replace q3:=zf_ hb (q3) (by first | omega | (simp; omega));replace hz:=Nat.lt_of_lt_of_le hz hb.size;clear hb HTD K0 K1;have hg2:=World.block_lt_of_cell? _ ⟨g,1,none⟩ k1;have k1':∀ o,(w2.alloc o).cell? ⟨g,1,none⟩=some (.string p1):=fun o=>zL_ k1 hg2
      clear hg2;go_wp2_with fail;clear k1 k1';refine (HTN.out _).mono ?_;rintro e w3 ⟨rfl,hb⟩;have d0:=za_ hb (b:=w2.heap.size) (o:=0) (v:=.int .i64 a) (by go_simp) (by simp);have d1:=za_ hb (b:=w2.heap.size) (o:=1) (v:=.int .i64 b) (by go_simp) (by simp);replace HB:=ze_ (ze_ HB (zb_ _ _)) hb;replace r0:=za_ hb (zL_ r0 hz) (by first | omega | (simp; omega));replace q0:=zf_ hb (z0_ q0 hz) (by first | omega | (simp; omega));replace r1:=za_ hb (zL_ r1 hz) (by first | omega | (simp; omega));replace q1:=zf_ hb (z0_ q1 hz) (by first | omega | (simp; omega));replace r2:=za_ hb (zL_ r2 hz) (by first | omega | (simp; omega));replace q2:=zf_ hb (z0_ q2 hz) (by first | omega | (simp; omega));replace r3:=za_ hb (zL_ r3 hz) (by first | omega | (simp; omega));replace q3:=zf_ hb (z0_ q3 hz) (by first | omega | (simp; omega));clear hb HTN;go_wp2;exact bodyPost_ret (v:=.tuple #[.agg #[.int .i64 a,.int .i64 b,.int .i64 v,.bool false],.bool true]) (by simp [results,Tryz.results208,go_sem,r0,r1,r2,r3,q0,q1,q2,q3,hz]) rfl ⟨true,⟨a,b,v,false⟩,rfl,(fun _=>HY.out),(fun h=>by cases h),wA_ HB.out⟩
     ·have HTN:Hid (∀ W:World,Calls Tryz.prog 186 #[.string p1] W fun e w'=>N3P W e w'):=fun W=>xd_ _ W z1 hn
      have HN:Hid (∀ x',¬ SibS (bl s) x'):=fun x' hx=>hn ((wc_ HP.out HL.out).1 hx).1.2
      clear ha hb hd hn HP HL;refine (HTD.out _).mono ?_;rintro e w2 ⟨rfl,hb⟩;have k1:=za_ hb K1.out G1.out;replace HB:=ze_ HB hb;replace r0:=za_ hb (r0) (by first | omega | (simp; omega));replace q0:=zf_ hb (q0) (by first | omega | (simp; omega));replace r1:=za_ hb (r1) (by first | omega | (simp; omega));replace q1:=zf_ hb (q1) (by first | omega | (simp; omega));replace r2:=za_ hb (r2) (by first | omega | (simp; omega));replace q2:=zf_ hb (q2) (by first | omega | (simp; omega));replace r3:=za_ hb (r3) (by first | omega | (simp; omega));replace q3:=zf_ hb (q3) (by first | omega | (simp; omega));replace hz:=Nat.lt_of_lt_of_le hz hb.size;clear hb HTD K0 K1;have hg2:=World.block_lt_of_cell? _ ⟨g,1,none⟩ k1;have k1':∀ o,(w2.alloc o).cell? ⟨g,1,none⟩=some (.string p1):=fun o=>zL_ k1 hg2
      clear hg2;go_wp2_with fail;clear k1 k1';refine (HTN.out _).mono ?_;rintro e w3 ⟨v,rfl,hb⟩;have d0:=za_ hb (b:=w2.heap.size) (o:=0) (v:=.int .i64 a) (by go_simp) (by simp);have d1:=za_ hb (b:=w2.heap.size) (o:=1) (v:=.int .i64 b) (by go_simp) (by simp);replace HB:=ze_ (ze_ HB (zb_ _ _)) hb;replace r0:=za_ hb (zL_ r0 hz) (by first | omega | (simp; omega));replace q0:=zf_ hb (z0_ q0 hz) (by first | omega | (simp; omega));replace r1:=za_ hb (zL_ r1 hz) (by first | omega | (simp; omega));replace q1:=zf_ hb (z0_ q1 hz) (by first | omega | (simp; omega));replace r2:=za_ hb (zL_ r2 hz) (by first | omega | (simp; omega));replace q2:=zf_ hb (z0_ q2 hz) (by first | omega | (simp; omega));replace r3:=za_ hb (zL_ r3 hz) (by first | omega | (simp; omega));replace q3:=zf_ hb (z0_ q3 hz) (by first | omega | (simp; omega));clear hb HTN;go_wp2;exact bodyPost_ret (v:=.tuple #[.agg #[.int .i64 a,.int .i64 b,.int .i64 v,.bool false],.bool false]) (by simp [results,Tryz.results208,go_sem,r0,r1,r2,r3,q0,q1,q2,q3,hz]) rfl ⟨false,⟨a,b,v,false⟩,rfl,(fun h=>by cases h),(fun _=>HN.out),wA_ HB.out⟩
    ·have HTD:Hid (∀ W:World,Calls Tryz.prog 241 #[.string p0] W fun e w'=>e=.returned (.tuple #[.agg #[.int .i64 0,.int .i64 0],.bool false])∧Below W.heap.size W w'):=fun W=>sg_ _ W z0 hd
     have HN:Hid (∀ x',¬ SibS (bl s) x'):=fun x' hx=>hd ((wc_ HP.out HL.out).1 hx).1.1
     by_cases hn:Num (bl p1)∧(bl p1).length<=18
     focus
      obtain ⟨v,hv⟩:∃ v,v=nv (bl p1):=⟨_,rfl⟩;have HTN:Hid (∀ W:World,Calls Tryz.prog 186 #[.string p1] W fun e w'=>e=.returned (.tuple #[.int .i64 v,.bool true])∧Below W.heap.size W w'):=fun W=>by rw [hv]; exact yw_ _ W z1 hn
      clear hv hd hn HP HL;refine (HTD.out _).mono ?_;rintro e w2 ⟨rfl,hb⟩;have k1:=za_ hb K1.out G1.out;replace HB:=ze_ HB hb;replace r0:=za_ hb (r0) (by first | omega | (simp; omega));replace q0:=zf_ hb (q0) (by first | omega | (simp; omega));replace r1:=za_ hb (r1) (by first | omega | (simp; omega));replace q1:=zf_ hb (q1) (by first | omega | (simp; omega));replace r2:=za_ hb (r2) (by first | omega | (simp; omega));replace q2:=zf_ hb (q2) (by first | omega | (simp; omega));replace r3:=za_ hb (r3) (by first | omega | (simp; omega));replace q3:=zf_ hb (q3) (by first | omega | (simp; omega));replace hz:=Nat.lt_of_lt_of_le hz hb.size;clear hb HTD K0 K1;have hg2:=World.block_lt_of_cell? _ ⟨g,1,none⟩ k1;have k1':∀ o,(w2.alloc o).cell? ⟨g,1,none⟩=some (.string p1):=fun o=>zL_ k1 hg2
      clear hg2;go_wp2_with fail;clear k1 k1';refine (HTN.out _).mono ?_;rintro e w3 ⟨rfl,hb⟩
     rotate_left
     focus
      have HTN:Hid (∀ W:World,Calls Tryz.prog 186 #[.string p1] W fun e w'=>N3P W e w'):=fun W=>xd_ _ W z1 hn
      clear hd hn HP HL;refine (HTD.out _).mono ?_;rintro e w2 ⟨rfl,hb⟩;have k1:=za_ hb K1.out G1.out;replace HB:=ze_ HB hb;replace r0:=za_ hb (r0) (by first | omega | (simp; omega));replace q0:=zf_ hb (q0) (by first | omega | (simp; omega));replace r1:=za_ hb (r1) (by first | omega | (simp; omega));replace q1:=zf_ hb (q1) (by first | omega | (simp; omega));replace r2:=za_ hb (r2) (by first | omega | (simp; omega));replace q2:=zf_ hb (q2) (by first | omega | (simp; omega));replace r3:=za_ hb (r3) (by first | omega | (simp; omega));replace q3:=zf_ hb (q3) (by first | omega | (simp; omega));replace hz:=Nat.lt_of_lt_of_le hz hb.size;clear hb HTD K0 K1;have hg2:=World.block_lt_of_cell? _ ⟨g,1,none⟩ k1;have k1':∀ o,(w2.alloc o).cell? ⟨g,1,none⟩=some (.string p1):=fun o=>zL_ k1 hg2
      clear hg2;go_wp2_with fail;clear k1 k1';refine (HTN.out _).mono ?_;rintro e w3 ⟨v,rfl,hb⟩
     rotate_left
     all_goals
      have d0:=za_ hb (b:=w2.heap.size) (o:=0) (v:=.int .i64 0) (by go_simp) (by simp);have d1:=za_ hb (b:=w2.heap.size) (o:=1) (v:=.int .i64 0) (by go_simp) (by simp);replace HB:=ze_ (ze_ HB (zb_ _ _)) hb;replace r0:=za_ hb (zL_ r0 hz) (by first | omega | (simp; omega));replace q0:=zf_ hb (z0_ q0 hz) (by first | omega | (simp; omega));replace r1:=za_ hb (zL_ r1 hz) (by first | omega | (simp; omega));replace q1:=zf_ hb (z0_ q1 hz) (by first | omega | (simp; omega));replace r2:=za_ hb (zL_ r2 hz) (by first | omega | (simp; omega));replace q2:=zf_ hb (z0_ q2 hz) (by first | omega | (simp; omega));replace r3:=za_ hb (zL_ r3 hz) (by first | omega | (simp; omega));replace q3:=zf_ hb (z0_ q3 hz) (by first | omega | (simp; omega));clear hb HTN;go_wp2;exact bodyPost_ret (v:=.tuple #[.agg #[.int .i64 0,.int .i64 0,.int .i64 v,.bool false],.bool false]) (by simp [results,Tryz.results208,go_sem,r0,r1,r2,r3,q0,q1,q2,q3,hz]) rfl ⟨false,⟨0,0,v,false⟩,rfl,(fun h=>by cases h),(fun _=>HN.out),wA_ HB.out⟩
   ·have h9:(cutL 61 (bl s)).length=ps.length:=by
     have:=congrArg List.length hPS
     rw [List.length_map] at this;exact this.symm
    have HN:Hid (∀ x',¬ SibS (bl s) x'):=fun x'=>pj_ (by rw [h9]; exact h2) HL.out
    clear h9;have h2':¬ (ps.length:Int)=2:=by omega
    clear hC hSZ hPS HL h2;go_wp2;exact bodyPost_ret (v:=.tuple #[.agg #[.int .i64 0,.int .i64 0,.int .i64 0,.bool false],.bool false]) (by simp [results,Tryz.results208,go_sem,r0,r1,r2,r3,q0,q1,q2,q3,hz]) rfl ⟨false,⟨0,0,0,false⟩,rfl,(fun h=>by cases h),fun _=>HN.out,wA_ HB.out⟩
end
end Go.Proofs.YtijcjhcgpmnchaaGreatDoor
