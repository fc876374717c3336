/- Nodes, part 27 of the law FnTake. -/
import Derived.Test.YtijcjhcgpmnchaaGreatDoorM26
import Derived.Test.YtijcjhcgpmnchaaGreatDoorCut
namespace Go.Proofs.YtijcjhcgpmnchaaGreatDoor
open Go.RowKit
set_option maxRecDepth 100000
set_option maxHeartbeats 16000000
set_option linter.unusedSimpArgs false
set_option linter.unusedVariables false
section
variable {s:ByteArray} {w w':World}
def MX (w:World):Prop:=∃ m,w.cell? ⟨0,0,none⟩=some (.int .i64 m)
theorem MX.next (h:MX w) (hb:Below w.heap.size w w'):MX w':=by
 obtain ⟨m,h⟩:=h;exact ⟨m,za_ hb h (zs_ h)⟩
def cA (s:ByteArray):ByteArray:=⟨((aft s.data.toList).getD []).toArray⟩
def cB (s:ByteArray):Bool:=(aft s.data.toList).isSome
theorem xP_ (w:World) (n:Nat):Below w.heap.size w (w.drewN n):=below_drewN (Below.refl _ _) n
theorem sY_ (s:ByteArray) (w:World) (hs:s.size < 4294967281) (hm:MX w) :
  Calls Tryz.prog 124 #[.string s,.string ⟨#[58]⟩] w fun e w'=>(∃ b,e=.returned (.tuple #[.string b,.string (cA s),.bool (cB s)]))∧Below w.heap.size w w':=by
 obtain ⟨m,hm⟩:=hm;refine (Any.strings_Cut { Tryz.laysM145 with } s ⟨#[58]⟩ m w hs hm).mono ?_;rintro e w' ⟨rfl,n,rfl⟩;refine ⟨⟨⟨(Lib.cut s.data.toList [58]).1.toArray⟩,?_⟩,xP_ w n⟩;have h:=nb_ s.data.toList
 have h1:(Lib.cut s.data.toList [58]).2.1=(aft s.data.toList).getD []:=by
  rw [h]; cases aft s.data.toList <;> rfl
 have h2:(Lib.cut s.data.toList [58]).2.2=(aft s.data.toList).isSome:=by
  rw [h]; cases aft s.data.toList <;> rfl
 show Ending.returned (.tuple #[.string _,.string ⟨(Lib.cut s.data.toList [58]).2.1.toArray⟩,.bool (Lib.cut s.data.toList [58]).2.2])=_
 rw [h1,h2];rfl
theorem ov_ (h:cB (cA s)=false):y8_ s=none:=by
 unfold y8_ opn;cases ha:aft s.data.toList with
 | none=>rfl
 | some r=>
  have e:aft r=none:=by
   have:(cA s).data.toList=r:=by simp [cA,ha]
   unfold cB at h;rw [this] at h
   simpa using h
  show (((some r).bind aft).bind _)=none
  simp [e]
theorem py_ (h:cB (cA s)=true):y8_ s=if zq_ (cA (cA s))=s then some (cA (cA s)) else none:=by
 unfold y8_ opn;cases ha:aft s.data.toList with
 | none=>
  have:(cA s).data.toList=[]:=by simp [cA,ha]
  unfold cB at h;rw [this] at h;cases h
 | some r=>
  have e:(cA s).data.toList=r:=by simp [cA,ha]
  unfold cB at h;rw [e] at h;obtain ⟨t,ht⟩:=isx h
  have e2:cA (cA s)=⟨t.toArray⟩:=by
   unfold cA at e ⊢;rw [e,ht];rfl
  rw [e2];show (((some r).bind aft).bind _)=_
  simp [ht]
theorem qU_ (s:ByteArray):(cA s).size<=s.size:=by
 have e:(cA s).size=((aft s.data.toList).getD []).length:=by unfold cA; exact wB_ _
 rw [e];cases ha:aft s.data.toList with
 | none=>simp
 | some r=>
  have:=na_ ha
  have e3:s.data.toList.length=s.size:=by rw [Array.length_toList]; rfl
  rw [e3] at this;show r.length<=s.size
  omega
theorem ti_ (s:ByteArray) (w:World) (hs:s.size < 4294967281) (ht0:TB w) (hm0:MX w) :
  Calls Tryz.prog 64 #[.string s] w fun e w'=>OpP w s e w':=by
 have HT:Hid (TB w):=ht0;have HM:Hid (MX w):=hm0;clear ht0 hm0;have hz1:=qU_ s;have hz2:=qU_ (cA s);obtain ⟨b,hb0⟩:∃ b,b=cA s:=⟨_,rfl⟩;have C1:Hid (∀ W:World,MX W->Calls Tryz.prog 124 #[.string s,.string ⟨#[58]⟩] W fun e w'=>(∃ x,e=.returned (.tuple #[.string x,.string b,.bool (cB s)]))∧Below W.heap.size W w'):=fun W h=>by rw [hb0]; exact sY_ s W hs h
 obtain ⟨t,ht⟩:∃ t,t=cA b:=⟨_,rfl⟩;obtain ⟨k,hk⟩:∃ k,k=cB b:=⟨_,rfl⟩;have C2:Hid (∀ W:World,MX W->Calls Tryz.prog 124 #[.string b,.string ⟨#[58]⟩] W fun e w'=>(∃ x,e=.returned (.tuple #[.string x,.string t,.bool k]))∧Below W.heap.size W w'):=fun W h=>by rw [ht,hk]; exact sY_ b W (by rw [hb0]; omega) h
 have HO:Hid ((k=false->y8_ s=none)∧(k=true->y8_ s=if zq_ t=s then some t else none)):=⟨fun h=>ov_ (by rw [<- hb0,<- hk]; exact h),fun h=>by rw [py_ (by rw [<- hb0,<- hk]; exact h),<- hb0,<- ht]⟩;have SE:Hid (∀ W:World,TB W->Calls Tryz.prog 96 #[.string t] W fun e w'=>e=.returned (.string (zq_ t))∧Below W.heap.size W w'):=fun W h=>xM_ t W h (by rw [ht,hb0]; omega)
 generalize hq:zq_ t=q at *;clear hb0 ht hk hz1 hz2 hq;cases k with
 | false=>
  have H1:Hid (y8_ s=none):=HO.out.1 rfl;go_enter Tryz.func64,Tryz.ntmps64;go_wp2_with fail;refine Calls.mono (C1.out _ HM.out) ?_;rintro e w1 ⟨⟨x,rfl⟩,hb⟩;have HB:=hm_ hb;clear hb;go_wp2_with fail;refine Calls.mono (C2.out _ (MX.next (show MX w from HM.out) HB.out)) ?_
  rintro e w2 ⟨⟨y,rfl⟩,hb⟩;have HB2:Hid (Below w.heap.size w w2):=ze_ HB hb;clear hb HB;go_wp2;go_ret2;refine ⟨⟨#[]⟩,false,?_,HB2.out,?_,?_⟩
  ·rfl
  ·exact fun _=>H1.out
  ·intro h; cases h
 | true=>
  by_cases hqs:q=s
  ·have hqe:(s.toList == q.toList)=true:=(Lib.bytes_beq_iff s q).2 hqs.symm;have HQ:Hid (y8_ s=some t):=by show _=_; rw [HO.out.2 rfl,if_pos hqs]
   clear hqs;go_enter Tryz.func64,Tryz.ntmps64;go_wp2_with fail;refine Calls.mono (C1.out _ HM.out) ?_;rintro e w1 ⟨⟨x,rfl⟩,hb⟩;have HB:=hm_ hb;clear hb;go_wp2_with fail;refine Calls.mono (C2.out _ (MX.next (show MX w from HM.out) HB.out)) ?_
   rintro e w2 ⟨⟨y,rfl⟩,hb⟩;have HB2:Hid (Below w.heap.size w w2):=ze_ HB hb;clear hb HB;go_wp2_with fail;refine Calls.mono (SE.out _ (TB.next (show TB w from HT.out) HB2.out)) ?_
   rintro e w3 ⟨rfl,hb⟩;have HB3:Hid (Below w.heap.size w w3):=ze_ HB2 hb;clear hb HB2;go_wp2;go_ret2;refine ⟨t,true,?_,HB3.out,?_,?_⟩
   ·rfl
   ·intro h; cases h
   ·exact fun _=>HQ.out
  ·have hqe:(s.toList == q.toList)=false:=by
    cases hh:(s.toList == q.toList) with
    | false=>rfl
    | true=>exact (hqs ((Lib.bytes_beq_iff s q).1 hh).symm).elim
   have HQ:Hid (y8_ s=none):=by show _=_; rw [HO.out.2 rfl,if_neg hqs]
   clear hqs;go_enter Tryz.func64,Tryz.ntmps64;go_wp2_with fail;refine Calls.mono (C1.out _ HM.out) ?_;rintro e w1 ⟨⟨x,rfl⟩,hb⟩;have HB:=hm_ hb;clear hb;go_wp2_with fail;refine Calls.mono (C2.out _ (MX.next (show MX w from HM.out) HB.out)) ?_
   rintro e w2 ⟨⟨y,rfl⟩,hb⟩;have HB2:Hid (Below w.heap.size w w2):=ze_ HB hb;clear hb HB;go_wp2_with fail;refine Calls.mono (SE.out _ (TB.next (show TB w from HT.out) HB2.out)) ?_
   rintro e w3 ⟨rfl,hb⟩;have HB3:Hid (Below w.heap.size w w3):=ze_ HB2 hb;clear hb HB2;go_wp2;go_ret2;refine ⟨⟨#[]⟩,false,?_,HB3.out,?_,?_⟩
   ·rfl
   ·exact fun _=>HQ.out
   ·intro h; cases h
end
section
variable {W w wr':World} {i lo lo':Nat} {s:ByteArray} {ss:List ByteArray} {v v' v0 v1:Value}
def recL:List ByteArray->List ByteArray
 | []=>[]
 | s :: ss=>match y8_ s with
  | some t=>t :: recL ss
  | none=>[]
theorem uV_ {t:ByteArray} (hi:i < ss.length) (h:y8_ ss[i]=some t):recL (ss.drop i)=t :: recL (ss.drop (i+1)):=by
 rw [List.drop_eq_getElem_cons hi]
 conv=>lhs; unfold recL
 rw [h]
theorem uX_ (hi:i < ss.length) (h:y8_ ss[i]=none):recL (ss.drop i)=[]:=by
 rw [List.drop_eq_getElem_cons hi]
 conv=>lhs; unfold recL
 rw [h]
structure RI (w wr:World) (v0 v1 v:Value) (l:List ByteArray):Prop where
 c0:wr.cell? ⟨w.heap.size,0,none⟩=some v0
 c1:wr.cell? ⟨w.heap.size,1,none⟩=some v1
 own:OwnT wr v l (w.heap.size+1)
 size:w.heap.size+1<=wr.heap.size
 below:Below w.heap.size w wr
theorem RI.next {wr:World} {l:List ByteArray} (h:RI w wr v0 v1 v l) (hb:Below wr.heap.size wr wr'):RI w wr' v0 v1 v l:=
 ⟨za_ hb h.c0 (zs_ h.c0),za_ hb h.c1 (zs_ h.c1),h.own.next hb,Nat.le_trans h.size hb.size,h.below.trans (hb.mono h.below.size)⟩
theorem RI.app {wr:World} {l l':List ByteArray} (h:RI w wr v0 v1 v l) (hO:OwnT wr' v' l' (w.heap.size+1)) (hg:Gro wr wr' v v'):RI w wr' v0 v1 v' l':=
 ⟨h.own.cell hg h.c0 (by omega),h.own.cell hg h.c1 (by omega),hO,Nat.le_trans h.size hg.size,h.own.below h.below (by omega) hg⟩
theorem y1_:TRow (W.alloc (.cells #[.string s] 9)) (some ⟨W.heap.size,0,none⟩) [s]:=.inr ⟨W.heap.size,0,rfl,fun i hi=>by
 have:i=0:=by simpa using hi
 subst this
 go_simp⟩
theorem OwnT.nil (W:World) (lo:Nat):OwnT W (.slice none 0 0) [] lo:=⟨World.ownsRow_nil W 0 9 1,fun k hk=>absurd hk Gro.none_ne⟩
theorem OwnT.weak (h:OwnT W v ss lo) (hl:lo'<=lo):OwnT W v ss lo':=⟨h.own,fun k hk=>Nat.le_trans hl (h.ge k hk)⟩
def RP (w:World) (code:Int) (rs:List ByteArray) (e:Ending) (w':World):Prop:=∃ p c,e=.returned (.tuple #[.slice p rs.length c,.int .i64 code])∧Below w.heap.size w w'∧OwnT w' (.slice p rs.length c) rs w.heap.size
def RP1 (w:World) (rs:List ByteArray) (e:Ending) (w':World):Prop:=∃ p c,e=.returned (.slice p rs.length c)∧Below w.heap.size w w'∧OwnT w' (.slice p rs.length c) rs w.heap.size
theorem t6_ (v0 v1:Value) (ss us:List ByteArray) (w:World) (hn:ss.length<=1048576) (hn':us.length<=1048576) (hw0:∀ s ∈ ss,s.size<=1048576) (hr0:RowV w v0 ss) (hs0:RowV w v1 us) (ht0:TB w) (hm0:MX w) :
  Calls Tryz.prog 21 #[.agg #[v0,v1]] w (RP w (if ss.length+us.length<=300 then 0 else 1) (if ss.length+us.length<=300 then recL ss else [])):=by
 have HT:Hid (TB w):=ht0;have HMX:Hid (MX w):=hm0;clear ht0 hm0;obtain ⟨ao,c0,rfl,_,hr0⟩:=hr0;obtain ⟨bo,c1,rfl,_,hs0⟩:=hs0;have RA:Hid (TRow w ao ss):=hr0;have HW:=hm_ hw0;obtain ⟨n,hn0⟩:∃ n,n=ss.length:=⟨_,rfl⟩;have HN:Hid (n=ss.length):=hn0;have RU:Hid (TRow w bo us):=hs0
 have OKC:Hid (∀ W:World,TRow W ao ss->TRow W bo us->Calls Tryz.prog 63 #[.agg #[.slice ao n c0,.slice bo us.length c1]] W fun e w'=>e=.returned (.bool (decide (ss.length+us.length<=300)))∧Below W.heap.size W w'):=fun W h0 h1=>by
  rw [hn0];exact uy_ _ _ ss us W hn hn' ⟨ao,c0,rfl,by assumption,h0⟩ ⟨bo,c1,rfl,by assumption,h1⟩
 by_cases hok:ss.length+us.length<=300
 case neg=>
  rw [if_neg hok,if_neg hok];have hd:decide (ss.length+us.length<=300)=false:=decide_eq_false hok;rw [hd] at OKC;rw [<- hn0];clear hn0 hr0 hs0 hw0;go_enter Tryz.func21,Tryz.ntmps21;go_wp2_with fail;refine Calls.mono (OKC.out _ (RA.out.next (zb_ _ _)) (RU.out.next (zb_ _ _))) ?_;rintro e w1 ⟨rfl,hb⟩;have HB:Hid (Below w.heap.size w w1):=(zb_ _ _).trans (hb.mono (by simp));clear hb;go_wp2;go_ret2;exact ⟨none,0,rfl,HB.out,OwnT.nil _ _⟩
 rw [if_pos hok,if_pos hok];have hd:decide (ss.length+us.length<=300)=true:=decide_eq_true hok;rw [hd] at OKC;rw [<- hn0];rw [<- hn0] at hn;clear hn0 hr0 hs0 hw0 hok hd;go_enter Tryz.func21,Tryz.ntmps21;go_wp2_with fail;refine Calls.mono (OKC.out _ (RA.out.next (zb_ _ _)) (RU.out.next (zb_ _ _))) ?_;rintro e w1 ⟨rfl,hb⟩;have x0:w1.cell? ⟨w.heap.size,0,none⟩=some (.slice ao n c0):=za_ hb (by go_simp) (by simp);have x1:w1.cell? ⟨w.heap.size,1,none⟩=some (.slice bo us.length c1):=za_ hb (by go_simp) (by simp);have C0:Hid (RI w w1 (.slice ao n c0) (.slice bo us.length c1) (.slice none 0 0) []):=⟨x0,x1,OwnT.nil _ _,by have:=hb.size; simpa using this,(zb_ _ _).trans (hb.mono (by simp))⟩;clear hb OKC;go_wp2;clear x0 x1;go_loopw [4,15] (fun s4 s15 wr=>∃ (i:Nat) (l:List ByteArray) (vo:Option Addr) (vc N:Nat),i<=n∧s15=.int .i64 i∧s4=.slice vo N vc∧N=l.length∧(l++recL (ss.drop i)=recL ss∧l.length<=i)∧RI w wr (.slice ao n c0) (.slice bo us.length c1) (.slice vo N vc) l) (fun _ s15 _=>n - (intOf s15).toNat)
 case atStart=>exact ⟨0,[],none,0,0,by omega,rfl,rfl,rfl,⟨by simp,by simp⟩,C0.out⟩
 case round=>
  clear C0;obtain ⟨i,l,vo,vc,N,hi,rfl,rfl,hL0,hl0,hC0⟩:=hrel;have CC:=hm_ hC0;have HL:Hid (N=l.length):=hL0;have HQ:=hm_ hl0
  have hN:N<=1048576:=by
   have h1:=HL.out;have h2:=HQ.out.2;omega
  have d0:=hC0.c0;have d1:=hC0.c1;clear hC0 hL0 hl0;have kk:(0:Int)<=(i:Int):=by omega
  by_cases hlt:i < n
  ·have hlt':(i:Int) < (n:Int):=by omega
   have his:i < ss.length:=by have:=HN.out; omega
   rcases RA.out with h' | ⟨b,off,rfl,h2⟩
   ·rw [h'] at his; simp at his
   obtain ⟨s,hs⟩:∃ s,s=ss[i]:=⟨_,rfl⟩;have HS:Hid (s=ss[i]):=hs;have hsz:s.size<=1048576:=by rw [hs]; exact HW.out _ (List.getElem_mem his)
   have x0:=za_ CC.out.below (h2 i his) (zs_ (h2 i his));rw [<- hs] at x0;clear h2 hs;go_wp2_with fail;refine (ti_ s _ (by omega) (TB.next (show TB w from HT.out) CC.out.below) (MX.next (show MX w from HMX.out) CC.out.below)).mono ?_
   rintro e w1 ⟨t,r,rfl,hb,h0,h1⟩;have C1:=hm_ (CC.out.next hb);have H0:=hm_ h0;have H1:=hm_ h1;have e0:=C1.out.c0;have e1:=C1.out.c1;clear hb h0 h1 CC x0 d0 d1;cases r with
   | false=>
    have HR:Hid (l=recL ss):=by
     have h1:=HQ.out.1;rw [uX_ his (by rw [<- HS.out]; exact H0.out rfl),List.append_nil] at h1;exact h1
    go_wp2;go_ret2;obtain rfl:=HR.out;obtain rfl:=HL.out;exact ⟨vo,vc,rfl,C1.out.below,C1.out.own.weak (by omega)⟩
   | true=>
    have HR:Hid ((l++[t])++recL (ss.drop (i+1))=recL ss∧(l++[t]).length<=i+1):=⟨by
     have h1:=HQ.out.1;rw [uV_ his (by rw [<- HS.out]; exact H1.out rfl)] at h1;rw [List.append_assoc]
     exact h1,by have:=HQ.out.2; simp; omega⟩
    have CA:Hid (RI w (w1.alloc (.cells #[.string t] 9)) (.slice (some ⟨b,off,none⟩) n c0) (.slice bo us.length c1) (.slice vo N vc) l):=C1.out.next (zb_ _ _);go_wp2_with (at_builtin; refine xk_ rfl (.tmp 26) (.tmp 28) rfl rfl (.slice vo N vc) N l (w.heap.size+1) (N+1) rfl HL.out CA.out.own CA.out.size (some ⟨w1.heap.size,0,none⟩) 1 1 [t] rfl rfl y1_ (by omega) rfl ?_; intro vo3 vc3 w3 hO hg; have C3:Hid _:=CA.out.app hO hg; clear hO hg)
    go_roundw
    case rel=>exact ⟨i+1,l++[t],vo3,vc3,N+1,by omega,by go_num,rfl,by have:=HL.out; simp; omega,HR.out,C3.out⟩
    case measure=>simp [intOf]; omega
  ·have hlt':¬ (i:Int) < (n:Int):=by omega
   have HR:Hid (l=recL ss):=by
    have h1:=HQ.out.1;rw [List.drop_of_length_le (by have:=HN.out; omega)] at h1;show l=recL ss
    simpa [recL] using h1
   go_wp2;go_ret2;obtain rfl:=HR.out;obtain rfl:=HL.out;exact ⟨vo,vc,rfl,CC.out.below,CC.out.own.weak (by omega)⟩
end
section
variable {v v' v0 v1:Value} {w wr':World}
theorem rg_ (v0 v1:Value) (ss us:List ByteArray) (w:World) (hn:ss.length<=1048576) (hn':us.length<=1048577) (hr0:RowV w v0 ss) (hs0:RowV w v1 us) :
  Calls Tryz.prog 107 #[.agg #[v0,v1]] w fun e w'=>∃ p0 c0 p1 c1,e=.returned (.agg #[.slice p0 ss.length c0,.slice p1 us.length c1])∧Below w.heap.size w w'∧Own2 w' (.slice p0 ss.length c0) (.slice p1 us.length c1) ([]++ss) ([]++us) w.heap.size w'.heap.size:=by
 obtain ⟨ao,c0,rfl,_,hr0⟩:=hr0;obtain ⟨bo,c1,rfl,_,hs0⟩:=hs0;have RA:Hid (TRow w ao ss):=hr0;have RU:Hid (TRow w bo us):=hs0;obtain ⟨n,hn0⟩:∃ n,n=ss.length:=⟨_,rfl⟩;obtain ⟨m,hm0⟩:∃ m,m=us.length:=⟨_,rfl⟩;have HN:Hid (n=ss.length):=hn0;have HM:Hid (m=us.length):=hm0;rw [<- hn0,<- hm0];rw [<- hn0] at hn;rw [<- hm0] at hn';clear hn0 hm0 hr0 hs0;have B0:Hid (Below w.heap.size w ((w.alloc (.cells #[.slice ao n c0,.slice bo m c1] 27)).alloc (.cells #[.slice none 0 0,.slice none 0 0] 27))):=((Below.refl _ _).alloc (Nat.le_refl _) _).alloc (by simp) _;go_enter Tryz.func107,Tryz.ntmps107;go_wp2;refine wp_region_held_drew (S:=(fun w'=>(w'.cell? ⟨w.heap.size,0,none⟩=some (.slice ao n c0)∧w'.cell? ⟨w.heap.size,1,none⟩=some (.slice bo m c1))∧(w.heap.size+1+1)<=w'.heap.size∧Below w.heap.size w w')) (by kernel_rfl) ?_ (fun hH=>?_)
 ·(try dsimp only);exact ⟨⟨by go_simp,by go_simp⟩,by simp,B0.out.drew⟩
 refine wTk 1 ?_;refine wTk 2 ?_;refine wTk 5 ?_;refine wTk 6 ?_;have TH:Hid (Th2 (((w.alloc (.cells #[.slice ao n c0,.slice bo m c1] 27)).alloc (.cells #[.slice none 0 0,.slice none 0 0] 27)).drew) (w.heap.size+1)):=Th2.next (by have:=wW_ (W:=(w.alloc (.cells #[.slice ao n c0,.slice bo m c1] 27))) (v0:=.slice none 0 0) (v1:=.slice none 0 0) (t:=27); simpa using this) (zd_ _);generalize ((w.alloc (.cells #[.slice ao n c0,.slice bo m c1] 27)).alloc (.cells #[.slice none 0 0,.slice none 0 0] 27)).drew=wd at *;clear B0;refine wpAnyH_ready (rs:=[0,4]) (by kernel_rfl) (by simp) ?_;refine .cons rfl (fun K hK=>?_) (.cons rfl (fun K hK=>?_) .nil)
 ·refine wLy ?_;have C':OwnT (wd.alloc (.cells #[] 9)) (.slice (some ⟨wd.heap.size,0,none⟩) 0 0) [] (w.heap.size+1+1):=OwnT.new hH.2.1;have hba:=zb_ wd (.cells #[] 9);go_simp;(try simp only []);refine wHk hK (⟨⟨za_ hba hH.1.1 (zs_ hH.1.1),za_ hba hH.1.2 (zs_ hH.1.2)⟩,Nat.le_trans hH.2.1 (hba).size,(ze_ (w:=w) hH.2.2 hba).out⟩) ?_;clear hK K hH;intro hH;replace TH:Hid _:=TH.out.next hba;have C:Hid _:=C';clear C' hba;generalize wd.alloc (.cells #[] 9)=w2 at *;generalize wd.heap.size=g0 at *;refine wpAnyH_ready (rs:=[3,4]) (by kernel_rfl) (by simp) ?_;refine .cons rfl (fun K hK=>?_) (.cons rfl (fun K hK=>?_) .nil)
  ·refine wLy ?_;rw [if_pos (by rfl)];refine yf_ (.tmp 3) (.tmp 5) rfl rfl (Value.slice (some ⟨g0,0,none⟩) 0 0) 0 [] (w.heap.size+1+1) n rfl rfl C.out hH.2.1 ao n c0 ss rfl HN.out (RA.out.next hH.2.2) (by omega) (by omega) ?_;intro vow3 vcw3 w3 hO hg;refine wHk hK (⟨⟨C.out.cell hg hH.1.1 (by omega),C.out.cell hg hH.1.2 (by omega)⟩,Nat.le_trans hH.2.1 hg.size,C.out.below hH.2.2 (by omega) hg⟩) ?_;clear hK K hH;intro hH;replace TH:Hid _:=TH.out.gro C.out hg (by omega);replace C:Hid _:=hO;clear hO hg;refine wRd 4 (fun K hK=>?_);have N':OwnT (w3.alloc (.cells #[] 9)) (.slice (some ⟨w3.heap.size,0,none⟩) 0 0) [] (w.heap.size+1+1):=OwnT.new hH.2.1;have hba:=zb_ w3 (.cells #[] 9);have NE:Hid (∀ k,(Value.slice vow3 n vcw3).ownBlock=some k->((Value.slice (some ⟨w3.heap.size,0,none⟩) 0 0)).ownBlock≠some k):=fun k e e_=>by have:=(C.out.own.lt _ e).2; simp [Value.ownBlock] at e_; omega
   go_simp;(try simp only []);refine wHk hK (⟨⟨za_ hba hH.1.1 (zs_ hH.1.1),za_ hba hH.1.2 (zs_ hH.1.2)⟩,Nat.le_trans hH.2.1 (hba).size,(ze_ (w:=w) hH.2.2 hba).out⟩) ?_;clear hK K hH;intro hH;replace C:Hid _:=C.out.next hba;replace TH:Hid _:=TH.out.next hba;have N:Hid _:=N';clear N' hba;generalize w3.alloc (.cells #[] 9)=w4 at *;generalize w3.heap.size=g7 at *;refine wRd 7 (fun K hK=>?_);rw [if_pos (by rfl)];refine yf_ (.tmp 7) (.tmp 9) rfl rfl (Value.slice (some ⟨g7,0,none⟩) 0 0) 0 [] (w.heap.size+1+1) m rfl rfl N.out hH.2.1 bo m c1 us rfl HM.out (RU.out.next hH.2.2) (by omega) (by omega) ?_;intro vow5 vcw5 w5 hO hg;have hap:=C.out.apart (v:=Value.slice (some ⟨g7,0,none⟩) 0 0) (fun k h h_=>NE.out k h_ h) hg;refine wHk hK (⟨⟨N.out.cell hg hH.1.1 (by omega),N.out.cell hg hH.1.2 (by omega)⟩,Nat.le_trans hH.2.1 hg.size,N.out.below hH.2.2 (by omega) hg⟩) ?_;clear hK K hH;intro hH;replace C:Hid _:=hap.1;replace NE:Hid _:=(fun k h h_=>hap.2 k h_ h);clear hap;replace TH:Hid _:=TH.out.gro N.out hg (by omega);replace N:Hid _:=hO;clear hO hg;refine wTk 8 ?_;obtain ⟨⟨⟨u0,T0⟩,⟨u1,T1⟩⟩,Z0,Z1⟩:=TH.out;refine wRd 9 (fun K hK=>?_);go_simp;(try simp only []);refine wHk hK (⟨⟨zg_ (zg_ hH.1.1 (by omega)) (by omega),zg_ (zg_ hH.1.2 (by omega)) (by omega)⟩,by simpa [World.setCell] using hH.2.1,zR_ (zR_ hH.2.2 (by omega)) (by omega)⟩) ?_;clear hK K hH;intro hH;have CC:=zY_ (v0:=Value.slice vow3 n vcw3) (v1:=Value.slice vow5 m vcw5) TH.out;obtain ⟨C0,C1⟩:=CC;have OO:=xK_ C.out N.out NE.out;have HZ:Hid (w.heap.size+1+1<=w5.heap.size∧Below w.heap.size w _):=⟨by simpa [World.setCell] using hH.2.1,hH.2.2⟩;have O9:Hid _:=Own2.set (g:=w.heap.size+1) (o:=1) (u:=Value.slice vow5 m vcw5) (Own2.set (g:=w.heap.size+1) (o:=0) (u:=Value.slice vow3 n vcw3) OO (Or.inl (by omega))) (Or.inl (by omega));clear T0 T1 Z0 Z1 hH OO TH C N NE;refine wDn ?_;go_wp2_with fail;refine bodyPost_ret (v:=.agg #[Value.slice vow3 n vcw3,Value.slice vow5 m vcw5]) (by simp [results,Tryz.results107,go_sem, *]) rfl ?_;exact ⟨_,_,_,_,rfl,HZ.out.2,Own2.weak O9.out (by omega) (by simp)⟩
  ·refine wLy ?_;have N':OwnT (w2.alloc (.cells #[] 9)) (.slice (some ⟨w2.heap.size,0,none⟩) 0 0) [] (w.heap.size+1+1):=OwnT.new hH.2.1;have hba:=zb_ w2 (.cells #[] 9);have NE:Hid (∀ k,(Value.slice (some ⟨g0,0,none⟩) 0 0).ownBlock=some k->((Value.slice (some ⟨w2.heap.size,0,none⟩) 0 0)).ownBlock≠some k):=fun k e e_=>by have:=(C.out.own.lt _ e).2; simp [Value.ownBlock] at e_; omega
   go_simp;(try simp only []);refine wHk hK (⟨⟨za_ hba hH.1.1 (zs_ hH.1.1),za_ hba hH.1.2 (zs_ hH.1.2)⟩,Nat.le_trans hH.2.1 (hba).size,(ze_ (w:=w) hH.2.2 hba).out⟩) ?_;clear hK K hH;intro hH;replace C:Hid _:=C.out.next hba;replace TH:Hid _:=TH.out.next hba;have N:Hid _:=N';clear N' hba;generalize w2.alloc (.cells #[] 9)=w3 at *;generalize w2.heap.size=g7 at *;refine wRd 3 (fun K hK=>?_);rw [if_pos (by rfl)];refine yf_ (.tmp 3) (.tmp 5) rfl rfl (Value.slice (some ⟨g0,0,none⟩) 0 0) 0 [] (w.heap.size+1+1) n rfl rfl C.out hH.2.1 ao n c0 ss rfl HN.out (RA.out.next hH.2.2) (by omega) (by omega) ?_;intro vow4 vcw4 w4 hO hg;have hap:=N.out.apart (v:=Value.slice (some ⟨g0,0,none⟩) 0 0) NE.out hg;refine wHk hK (⟨⟨C.out.cell hg hH.1.1 (by omega),C.out.cell hg hH.1.2 (by omega)⟩,Nat.le_trans hH.2.1 hg.size,C.out.below hH.2.2 (by omega) hg⟩) ?_;clear hK K hH;intro hH;replace N:Hid _:=hap.1;replace NE:Hid _:=hap.2;clear hap;replace TH:Hid _:=TH.out.gro C.out hg (by omega);replace C:Hid _:=hO;clear hO hg;refine wRd 7 (fun K hK=>?_);rw [if_pos (by rfl)];refine yf_ (.tmp 7) (.tmp 9) rfl rfl (Value.slice (some ⟨g7,0,none⟩) 0 0) 0 [] (w.heap.size+1+1) m rfl rfl N.out hH.2.1 bo m c1 us rfl HM.out (RU.out.next hH.2.2) (by omega) (by omega) ?_;intro vow5 vcw5 w5 hO hg;have hap:=C.out.apart (v:=Value.slice (some ⟨g7,0,none⟩) 0 0) (fun k h h_=>NE.out k h_ h) hg;refine wHk hK (⟨⟨N.out.cell hg hH.1.1 (by omega),N.out.cell hg hH.1.2 (by omega)⟩,Nat.le_trans hH.2.1 hg.size,N.out.below hH.2.2 (by omega) hg⟩) ?_;clear hK K hH;intro hH;replace C:Hid _:=hap.1;replace NE:Hid _:=(fun k h h_=>hap.2 k h_ h);clear hap;replace TH:Hid _:=TH.out.gro N.out hg (by omega);replace N:Hid _:=hO;clear hO hg;refine wTk 8 ?_;obtain ⟨⟨⟨u0,T0⟩,⟨u1,T1⟩⟩,Z0,Z1⟩:=TH.out;refine wRd 9 (fun K hK=>?_);go_simp;(try simp only []);refine wHk hK (⟨⟨zg_ (zg_ hH.1.1 (by omega)) (by omega),zg_ (zg_ hH.1.2 (by omega)) (by omega)⟩,by simpa [World.setCell] using hH.2.1,zR_ (zR_ hH.2.2 (by omega)) (by omega)⟩) ?_;clear hK K hH;intro hH;have CC:=zY_ (v0:=Value.slice vow4 n vcw4) (v1:=Value.slice vow5 m vcw5) TH.out;obtain ⟨C0,C1⟩:=CC;have OO:=xK_ C.out N.out NE.out;have HZ:Hid (w.heap.size+1+1<=w5.heap.size∧Below w.heap.size w _):=⟨by simpa [World.setCell] using hH.2.1,hH.2.2⟩;have O9:Hid _:=Own2.set (g:=w.heap.size+1) (o:=1) (u:=Value.slice vow5 m vcw5) (Own2.set (g:=w.heap.size+1) (o:=0) (u:=Value.slice vow4 n vcw4) OO (Or.inl (by omega))) (Or.inl (by omega));clear T0 T1 Z0 Z1 hH OO TH C N NE;refine wDn ?_;go_wp2_with fail;refine bodyPost_ret (v:=.agg #[Value.slice vow4 n vcw4,Value.slice vow5 m vcw5]) (by simp [results,Tryz.results107,go_sem, *]) rfl ?_;exact ⟨_,_,_,_,rfl,HZ.out.2,Own2.weak O9.out (by omega) (by simp)⟩
 ·refine wLy ?_;have N':OwnT (wd.alloc (.cells #[] 9)) (.slice (some ⟨wd.heap.size,0,none⟩) 0 0) [] (w.heap.size+1+1):=OwnT.new hH.2.1;have hba:=zb_ wd (.cells #[] 9);go_simp;(try simp only []);refine wHk hK (⟨⟨za_ hba hH.1.1 (zs_ hH.1.1),za_ hba hH.1.2 (zs_ hH.1.2)⟩,Nat.le_trans hH.2.1 (hba).size,(ze_ (w:=w) hH.2.2 hba).out⟩) ?_;clear hK K hH;intro hH;replace TH:Hid _:=TH.out.next hba;have N:Hid _:=N';clear N' hba;generalize wd.alloc (.cells #[] 9)=w2 at *;generalize wd.heap.size=g7 at *;refine wRd 0 (fun K hK=>?_);have C':OwnT (w2.alloc (.cells #[] 9)) (.slice (some ⟨w2.heap.size,0,none⟩) 0 0) [] (w.heap.size+1+1):=OwnT.new hH.2.1;have hba:=zb_ w2 (.cells #[] 9);have NE:Hid (∀ k,((Value.slice (some ⟨w2.heap.size,0,none⟩) 0 0)).ownBlock=some k->(Value.slice (some ⟨g7,0,none⟩) 0 0).ownBlock≠some k):=fun k e e_=>by have:=(N.out.own.lt _ e_).2; simp [Value.ownBlock] at e; omega
  go_simp;(try simp only []);refine wHk hK (⟨⟨za_ hba hH.1.1 (zs_ hH.1.1),za_ hba hH.1.2 (zs_ hH.1.2)⟩,Nat.le_trans hH.2.1 (hba).size,(ze_ (w:=w) hH.2.2 hba).out⟩) ?_;clear hK K hH;intro hH;replace N:Hid _:=N.out.next hba;replace TH:Hid _:=TH.out.next hba;have C:Hid _:=C';clear C' hba;generalize w2.alloc (.cells #[] 9)=w3 at *;generalize w2.heap.size=g0 at *;refine wRd 3 (fun K hK=>?_);rw [if_pos (by rfl)];refine yf_ (.tmp 3) (.tmp 5) rfl rfl (Value.slice (some ⟨g0,0,none⟩) 0 0) 0 [] (w.heap.size+1+1) n rfl rfl C.out hH.2.1 ao n c0 ss rfl HN.out (RA.out.next hH.2.2) (by omega) (by omega) ?_;intro vow4 vcw4 w4 hO hg;have hap:=N.out.apart (v:=Value.slice (some ⟨g0,0,none⟩) 0 0) NE.out hg;refine wHk hK (⟨⟨C.out.cell hg hH.1.1 (by omega),C.out.cell hg hH.1.2 (by omega)⟩,Nat.le_trans hH.2.1 hg.size,C.out.below hH.2.2 (by omega) hg⟩) ?_;clear hK K hH;intro hH;replace N:Hid _:=hap.1;replace NE:Hid _:=hap.2;clear hap;replace TH:Hid _:=TH.out.gro C.out hg (by omega);replace C:Hid _:=hO;clear hO hg;refine wRd 7 (fun K hK=>?_);rw [if_pos (by rfl)];refine yf_ (.tmp 7) (.tmp 9) rfl rfl (Value.slice (some ⟨g7,0,none⟩) 0 0) 0 [] (w.heap.size+1+1) m rfl rfl N.out hH.2.1 bo m c1 us rfl HM.out (RU.out.next hH.2.2) (by omega) (by omega) ?_;intro vow5 vcw5 w5 hO hg;have hap:=C.out.apart (v:=Value.slice (some ⟨g7,0,none⟩) 0 0) (fun k h h_=>NE.out k h_ h) hg;refine wHk hK (⟨⟨N.out.cell hg hH.1.1 (by omega),N.out.cell hg hH.1.2 (by omega)⟩,Nat.le_trans hH.2.1 hg.size,N.out.below hH.2.2 (by omega) hg⟩) ?_;clear hK K hH;intro hH;replace C:Hid _:=hap.1;replace NE:Hid _:=(fun k h h_=>hap.2 k h_ h);clear hap;replace TH:Hid _:=TH.out.gro N.out hg (by omega);replace N:Hid _:=hO;clear hO hg;refine wTk 8 ?_;obtain ⟨⟨⟨u0,T0⟩,⟨u1,T1⟩⟩,Z0,Z1⟩:=TH.out;refine wRd 9 (fun K hK=>?_);go_simp;(try simp only []);refine wHk hK (⟨⟨zg_ (zg_ hH.1.1 (by omega)) (by omega),zg_ (zg_ hH.1.2 (by omega)) (by omega)⟩,by simpa [World.setCell] using hH.2.1,zR_ (zR_ hH.2.2 (by omega)) (by omega)⟩) ?_;clear hK K hH;intro hH;have CC:=zY_ (v0:=Value.slice vow4 n vcw4) (v1:=Value.slice vow5 m vcw5) TH.out;obtain ⟨C0,C1⟩:=CC;have OO:=xK_ C.out N.out NE.out;have HZ:Hid (w.heap.size+1+1<=w5.heap.size∧Below w.heap.size w _):=⟨by simpa [World.setCell] using hH.2.1,hH.2.2⟩;have O9:Hid _:=Own2.set (g:=w.heap.size+1) (o:=1) (u:=Value.slice vow5 m vcw5) (Own2.set (g:=w.heap.size+1) (o:=0) (u:=Value.slice vow4 n vcw4) OO (Or.inl (by omega))) (Or.inl (by omega));clear T0 T1 Z0 Z1 hH OO TH C N NE;refine wDn ?_;go_wp2_with fail;refine bodyPost_ret (v:=.agg #[Value.slice vow4 n vcw4,Value.slice vow5 m vcw5]) (by simp [results,Tryz.results107,go_sem, *]) rfl ?_;exact ⟨_,_,_,_,rfl,HZ.out.2,Own2.weak O9.out (by omega) (by simp)⟩
def DQ (w:World) (rs ru:List ByteArray) (e:Ending) (w':World):Prop:=∃ p0 c0 p1 c1,e=.returned (.agg #[.slice p0 rs.length c0,.slice p1 ru.length c1])∧Below w.heap.size w w'∧Own2 w' (.slice p0 rs.length c0) (.slice p1 ru.length c1) rs ru w.heap.size w'.heap.size
theorem rh_ (v0 v1:Value) (ss us:List ByteArray) (w:World) (hn:ss.length<=1048576) (hn':us.length<=1048577) (hr0:RowV w v0 ss) (hs0:RowV w v1 us) :
  Calls Tryz.prog 107 #[.agg #[v0,v1]] w (DQ w ss us):=by
 refine (rg_ v0 v1 ss us w hn hn' hr0 hs0).mono ?_;rintro e w' ⟨p0,c0,p1,c1,h,hb,hO⟩;exact ⟨p0,c0,p1,c1,h,hb,hO⟩
structure AI (w wr:World) (v0 v1 v:Value) (l:List ByteArray):Prop where
 c0:wr.cell? ⟨w.heap.size,0,none⟩=some v0
 c1:wr.cell? ⟨w.heap.size,1,none⟩=some v1
 th:Th2 wr (w.heap.size+1)
 tb:Th2 wr w.heap.size
 own:OwnT wr v l (w.heap.size+1+1)
 size:w.heap.size+1+1<=wr.heap.size
 below:Below w.heap.size w wr
theorem AI.next {wr:World} {l:List ByteArray} (h:AI w wr v0 v1 v l) (hb:Below wr.heap.size wr wr'):AI w wr' v0 v1 v l:=
 ⟨za_ hb h.c0 (zs_ h.c0),za_ hb h.c1 (zs_ h.c1),h.th.next hb,h.tb.next hb,h.own.next hb,Nat.le_trans h.size hb.size,h.below.trans (hb.mono h.below.size)⟩
theorem AI.app {wr:World} {l l':List ByteArray} (h:AI w wr v0 v1 v l) (hO:OwnT wr' v' l' (w.heap.size+1+1)) (hg:Gro wr wr' v v'):AI w wr' v0 v1 v' l':=
 ⟨h.own.cell hg h.c0 (by omega),h.own.cell hg h.c1 (by omega),h.th.gro h.own hg (by omega),h.tb.gro h.own hg (by omega),hO,Nat.le_trans h.size hg.size,h.own.below h.below (by omega) hg⟩
theorem xs_ (v0 v1:Value) (ss us:List ByteArray) (t:ByteArray) (w:World) (ht:t.size<=65536) (hn:ss.length<=1048576) (hn':us.length<=1048576) (hr0:RowV w v0 ss) (hs0:RowV w v1 us) :
  Calls Tryz.prog 82 #[.agg #[v0,v1],.string t] w fun e w'=>∃ p c,e=.returned (.agg #[v0,.slice p (us.length+1) c])∧Below w.heap.size w w'∧RowV w' v0 ss∧OwnT w' (.slice p (us.length+1) c) (us++[zq_ t]) w.heap.size:=by
 have HRA:Hid (RowV w v0 ss):=hr0;obtain ⟨ao,c0,rfl,_,hr0⟩:=hr0;obtain ⟨bo,c1,rfl,_,hs0⟩:=hs0;have RA:Hid (TRow w ao ss):=hr0;have RU:Hid (TRow w bo us):=hs0;obtain ⟨n,hn0⟩:∃ n,n=ss.length:=⟨_,rfl⟩;obtain ⟨m,hm0⟩:∃ m,m=us.length:=⟨_,rfl⟩;have HN:Hid (n=ss.length):=hn0;have HM:Hid (m=us.length):=hm0;rw [<- hn0,<- hm0];rw [<- hn0] at hn;rw [<- hm0] at hn';clear hn0 hm0 hr0 hs0;have SE:Hid (∀ W:World,Calls Tryz.prog 138 #[.string t] W fun e w'=>e=.returned (.string (zq_ t))∧Below W.heap.size W w'):=fun W=>wD_ t W (by omega)
 generalize zq_ t=q at *
 have A0:Hid (AI w (((w.alloc (.cells #[.slice ao n c0,.slice bo m c1] 27)).alloc (.cells #[.slice none 0 0,.slice none 0 0] 27)).alloc (.cells #[] 9)) (.slice ao n c0) (.slice bo m c1) (.slice (some ⟨w.heap.size+1+1,0,none⟩) 0 0) []):=by
  have h1:Th2 ((w.alloc (.cells #[.slice ao n c0,.slice bo m c1] 27)).alloc (.cells #[.slice none 0 0,.slice none 0 0] 27)) (w.heap.size+1):=by have:=wW_ (W:=(w.alloc (.cells #[.slice ao n c0,.slice bo m c1] 27))) (v0:=.slice none 0 0) (v1:=.slice none 0 0) (t:=27); simpa using this
  have h0:Th2 ((w.alloc (.cells #[.slice ao n c0,.slice bo m c1] 27)).alloc (.cells #[.slice none 0 0,.slice none 0 0] 27)) w.heap.size:=(wW_ (W:=w) (v0:=.slice ao n c0) (v1:=.slice bo m c1) (t:=27)).next (zb_ _ _);have h2:=OwnT.new (W:=((w.alloc (.cells #[.slice ao n c0,.slice bo m c1] 27)).alloc (.cells #[.slice none 0 0,.slice none 0 0] 27))) (lo:=w.heap.size+1+1) (by simp);exact ⟨by go_simp,by go_simp,h1.next (zb_ _ _),h0.next (zb_ _ _),by simpa using h2,by simp,(((Below.refl _ _).alloc (Nat.le_refl _) _).alloc (by simp) _).alloc (by simp; omega) _⟩
 go_enter Tryz.func82,Tryz.ntmps82;go_wp2_with (at_builtin; refine xk_ rfl (.tmp 5) (.tmp 7) rfl rfl (.slice (some ⟨w.heap.size+1+1,0,none⟩) 0 0) 0 [] (w.heap.size+1+1) m rfl rfl A0.out.own A0.out.size bo m c1 us rfl HM.out (RU.out.next A0.out.below) (by omega) (by omega) ?_; intro vo1 vc1 w1 hO hg; have A1:Hid _:=A0.out.app hO hg; clear hO hg);refine Calls.mono (SE.out _) ?_;rintro e w2 ⟨rfl,hb⟩;have A2:=hm_ (A1.out.next hb);clear hb A0 A1;have A3:Hid (AI w (w2.alloc (.cells #[.string q] 9)) (.slice ao n c0) (.slice bo m c1) (.slice vo1 m vc1) ([]++us)):=A2.out.next (zb_ _ _)
 have R1:Hid (TRow (w2.alloc (.cells #[.string q] 9)) (some ⟨w2.heap.size,0,none⟩) [q]):=.inr ⟨w2.heap.size,0,rfl,fun i hi=>by
  have:i=0:=by simpa using hi
  subst this
  go_simp⟩
 have hml:m=([]++us).length:=by simpa using HM.out
 have HML:=hm_ hml;clear hml;go_wp2_with (at_builtin; refine xk_ rfl (.tmp 8) (.tmp 11) rfl rfl (.slice vo1 m vc1) m ([]++us) (w.heap.size+1+1) (m+1) rfl HML.out A3.out.own A3.out.size (some ⟨w2.heap.size,0,none⟩) 1 1 [q] rfl rfl R1.out (by omega) rfl ?_; intro vo4 vc4 w4 hO hg; have A4:Hid _:=A3.out.app hO hg; clear hO hg; have f0:=A4.out.c0; have f1:=A4.out.c1; have g1:=A4.out.tb.f1; obtain ⟨⟨⟨u0,T0⟩,⟨u1,T1⟩⟩,Z0,Z1⟩:=A4.out.th);have TH:=A4.out.th;have hz:=A4.out.size;have hc2:=zg_ (t:=w.heap.size) (j:=1) (u:=.slice vo4 (m+1) vc4) T0 (by omega);have hc3:=zg_ (t:=w.heap.size) (j:=1) (u:=.slice vo4 (m+1) vc4) T1 (by omega);have TB2:Th2 (w4.setCell ⟨w.heap.size,1,none⟩ (.slice vo4 (m+1) vc4)) (w.heap.size+1):=⟨⟨⟨u0,hc2⟩,⟨u1,hc3⟩⟩,by simpa using Z0,by simpa using Z1⟩;have A5:Hid _:=A4;refine bodyPost_ret (v:=.agg #[.slice ao n c0,.slice vo4 (m+1) vc4]) (by simp [results,Tryz.results82,go_sem,zY_ TB2, *]) rfl ?_;have B9:Below w.heap.size w (((w4.setCell ⟨w.heap.size,1,none⟩ (.slice vo4 (m+1) vc4)).setCell ⟨w.heap.size+1,0,none⟩ (.slice ao n c0)).setCell ⟨w.heap.size+1,1,none⟩ (.slice vo4 (m+1) vc4)):=zR_ (zR_ (zR_ A5.out.below (by omega)) (by omega)) (by omega);refine ⟨vo4,vc4,rfl,B9,(by have h9:=HRA.out.next B9; rw [<- HN.out] at h9; exact h9),?_⟩
 ·have hO:=A5.out.own
  have hO2:World.ownsRow (((w4.setCell ⟨w.heap.size,1,none⟩ (.slice vo4 (m+1) vc4)).setCell ⟨w.heap.size+1,0,none⟩ (.slice ao n c0)).setCell ⟨w.heap.size+1,1,none⟩ (.slice vo4 (m+1) vc4)) 0 9 1 (.slice vo4 (m+1) vc4) ([]++us++[q]).length (V ([]++us++[q])):=
   w5_ (w5_ (w5_ hO.own (fun e=>by have:=hO.ge _ e; omega)) (fun e=>by have:=hO.ge _ e; omega)) (fun e=>by have:=hO.ge _ e; omega)
  exact ⟨hO2,fun k hk=>by have:=hO.ge _ hk; omega⟩
theorem wG_ (v0 v1:Value) (ss us:List ByteArray) (w:World) (hn:ss.length<=1048576) (hn':us.length<=1048576) (hr0:RowV w v0 ss) (hs0:RowV w v1 us) :
  Calls Tryz.prog 93 #[.agg #[v0,v1]] w (DQ w ss us):=by
 obtain ⟨ao,c0,rfl,_,hr0⟩:=hr0;obtain ⟨bo,c1,rfl,_,hs0⟩:=hs0;have RA:Hid (TRow w ao ss):=hr0;have RU:Hid (TRow w bo us):=hs0;obtain ⟨n,hn0⟩:∃ n,n=ss.length:=⟨_,rfl⟩;obtain ⟨m,hm0⟩:∃ m,m=us.length:=⟨_,rfl⟩;have HN:Hid (n=ss.length):=hn0;have HM:Hid (m=us.length):=hm0
 have C1:Hid (∀ W:World,TRow W ao ss->Calls Tryz.prog 115 #[.slice ao n c0,.slice none 0 0] W fun e w'=>∃ g,e=.returned (.slice (some ⟨g,0,none⟩) n n)∧Below W.heap.size W w'∧W.heap.size<=g∧g < w'.heap.size∧w'.ownsRow 0 9 1 (.slice (some ⟨g,0,none⟩) n n) n (V ss)):=fun W hW=>by
  have:=xz_ ao none c0 0 ss [] W hn (by simp) hW (.inl rfl)
  rw [List.append_nil] at this
  simpa [hn0] using this
 have C2:Hid (∀ W:World,TRow W bo us->Calls Tryz.prog 115 #[.slice bo m c1,.slice none 0 0] W fun e w'=>∃ g,e=.returned (.slice (some ⟨g,0,none⟩) m m)∧Below W.heap.size W w'∧W.heap.size<=g∧g < w'.heap.size∧w'.ownsRow 0 9 1 (.slice (some ⟨g,0,none⟩) m m) m (V us)):=fun W hW=>by
  have:=xz_ bo none c1 0 us [] W hn' (by simp) hW (.inl rfl)
  rw [List.append_nil] at this
  simpa [hm0] using this
 rw [<- hn0,<- hm0];rw [<- hn0] at hn;rw [<- hm0] at hn';clear hn0 hm0 hr0 hs0;have B0:Hid (Below w.heap.size w ((w.alloc (.cells #[.slice ao n c0,.slice bo m c1] 27)).alloc (.cells #[.slice none 0 0,.slice none 0 0] 27))):=((Below.refl _ _).alloc (Nat.le_refl _) _).alloc (by simp) _;go_enter Tryz.func93,Tryz.ntmps93;go_wp2;refine wp_region_held_drew (S:=(fun w'=>(w'.cell? ⟨w.heap.size,0,none⟩=some (.slice ao n c0)∧w'.cell? ⟨w.heap.size,1,none⟩=some (.slice bo m c1))∧(w.heap.size+1+1)<=w'.heap.size∧Below w.heap.size w w')) (by kernel_rfl) ?_ (fun hH=>?_)
 ·(try dsimp only);exact ⟨⟨by go_simp,by go_simp⟩,by simp,B0.out.drew⟩
 refine wTk 0 ?_;refine wTk 1 ?_;refine wTk 3 ?_;refine wTk 4 ?_;have TH:Hid (Th2 (((w.alloc (.cells #[.slice ao n c0,.slice bo m c1] 27)).alloc (.cells #[.slice none 0 0,.slice none 0 0] 27)).drew) (w.heap.size+1)):=Th2.next (by have:=wW_ (W:=(w.alloc (.cells #[.slice ao n c0,.slice bo m c1] 27))) (v0:=.slice none 0 0) (v1:=.slice none 0 0) (t:=27); simpa using this) (zd_ _);generalize ((w.alloc (.cells #[.slice ao n c0,.slice bo m c1] 27)).alloc (.cells #[.slice none 0 0,.slice none 0 0] 27)).drew=wd at *;clear B0;refine wRd 2 (fun K hK=>?_);go_simp;go_at_call 115;refine Calls.mono (C1.out _ (RA.out.next hH.2.2)) ?_;rintro e w2 ⟨g0,rfl,hb,hg,hG,hO⟩;have hz0:=hH.2.1;refine wHk hK (⟨⟨za_ hb hH.1.1 (zs_ hH.1.1),za_ hb hH.1.2 (zs_ hH.1.2)⟩,Nat.le_trans hH.2.1 (hb).size,(ze_ (w:=w) hH.2.2 hb).out⟩) ?_;clear hK K hH;intro hH;replace TH:Hid _:=TH.out.next hb;have C:Hid (OwnT w2 (.slice (some ⟨g0,0,none⟩) n n) ss (w.heap.size+1+1)):=⟨by rw [<- HN.out]; exact hO,fun k hk=>by simp [Value.ownBlock] at hk; omega⟩;clear hb hg hG hO hz0;refine wRd 5 (fun K hK=>?_);go_simp;go_at_call 115;refine Calls.mono (C2.out _ (RU.out.next hH.2.2)) ?_;rintro e w3 ⟨g7,rfl,hb,hg,hG,hO⟩;have hz0:=hH.2.1;have HC2:=hm_ (C.out.next hb);have NE:Hid (∀ k,(Value.slice (some ⟨g0,0,none⟩) n n).ownBlock=some k->(Value.slice (some ⟨g7,0,none⟩) m m).ownBlock≠some k):=fun k e e_=>by have h1:=(C.out.own.lt _ e).2; simp [Value.ownBlock] at e_; omega
 refine wHk hK (⟨⟨za_ hb hH.1.1 (zs_ hH.1.1),za_ hb hH.1.2 (zs_ hH.1.2)⟩,Nat.le_trans hH.2.1 (hb).size,(ze_ (w:=w) hH.2.2 hb).out⟩) ?_;clear hK K hH;intro hH;replace TH:Hid _:=TH.out.next hb;have N:Hid (OwnT w3 (.slice (some ⟨g7,0,none⟩) m m) us (w.heap.size+1+1)):=⟨by rw [<- HM.out]; exact hO,fun k hk=>by simp [Value.ownBlock] at hk; omega⟩;clear hb hg hG hO hz0;clear C;have C:=HC2;clear HC2;refine wTk 6 ?_;obtain ⟨⟨⟨u0,T0⟩,⟨u1,T1⟩⟩,Z0,Z1⟩:=TH.out;refine wRd 7 (fun K hK=>?_);go_simp;(try simp only []);refine wHk hK (⟨⟨zg_ (zg_ hH.1.1 (by omega)) (by omega),zg_ (zg_ hH.1.2 (by omega)) (by omega)⟩,by simpa [World.setCell] using hH.2.1,zR_ (zR_ hH.2.2 (by omega)) (by omega)⟩) ?_;clear hK K hH;intro hH;have CC:=zY_ (v0:=Value.slice (some ⟨g0,0,none⟩) n n) (v1:=Value.slice (some ⟨g7,0,none⟩) m m) TH.out;obtain ⟨C0,C1'⟩:=CC;have OO:=xK_ C.out N.out NE.out;have HZ:Hid (w.heap.size+1+1<=w3.heap.size∧Below w.heap.size w _):=⟨by simpa [World.setCell] using hH.2.1,hH.2.2⟩;have O9:Hid _:=Own2.set (g:=w.heap.size+1) (o:=1) (u:=Value.slice (some ⟨g7,0,none⟩) m m) (Own2.set (g:=w.heap.size+1) (o:=0) (u:=Value.slice (some ⟨g0,0,none⟩) n n) OO (Or.inl (by omega))) (Or.inl (by omega));clear T0 T1 Z0 Z1 hH OO TH C N NE;refine wDn ?_;go_wp2_with fail;refine bodyPost_ret (v:=.agg #[Value.slice (some ⟨g0,0,none⟩) n n,Value.slice (some ⟨g7,0,none⟩) m m]) (by simp [results,Tryz.results93,go_sem, *]) rfl ?_;obtain rfl:=HN.out;obtain rfl:=HM.out;exact ⟨_,_,_,_,rfl,HZ.out.2,Own2.weak O9.out (by omega) (by simp)⟩
section
variable {ss us:List ByteArray} {t:ByteArray}
end
end
section
variable {W w:World} {b c' c1 g i l0 lo q:Nat} {o:No} {p p':Option Addr} {ss un:List ByteArray} {u v:Value} {vs:List Value}
def recT (p:Bool) (c:Cl):ByteArray:=(((if p then ⟨#[112,117,116,32]⟩ else ⟨#[106,111,105,110,32]⟩)++c.k)++⟨#[32]⟩)++⟨(objT (vvT c.a c.b c.c) c.l).toArray⟩
theorem yn_ (p:Bool) (c:Cl) (hk:c.k.size<=6) (h:OkP c.l c.a c.b c.c):(recT p c).size<=65536:=by
 have h1:=y9_ h;have h2:=wZ_ (objT (vvT c.a c.b c.c) c.l);unfold recT;cases p <;> simp only [ByteArray.size_append,Bool.false_eq_true,if_false,if_true] <;> (rw [h2]; have e4:(⟨#[112,117,116,32]⟩:ByteArray).size=4:=rfl; have e5:(⟨#[106,111,105,110,32]⟩:ByteArray).size=5:=rfl; have e1:(⟨#[32]⟩:ByteArray).size=1:=rfl; omega)
def jnC (h c:Cl):Cl:=⟨c.k,sj h.a h.b h.c c.a c.b c.c h.l c.l,max h.a c.a,max h.b c.b,max h.c c.c⟩
def xj_ (h c:Cl):Prop:=Same h.l c.l h.a h.b h.c c.a c.b c.c
theorem GRow.oth (h:GRow lo W p vs) (hne:∀ x,p=some x->vs≠[]->x.block≠q):GRow lo (W.setCell ⟨q,i,none⟩ u) p vs:=by
 rcases h with h | ⟨b,off,h1,h2,h3⟩
 ·exact .inl h
 ·by_cases hv:vs=[]
  ·exact .inl hv
  ·exact .inr ⟨b,off,h1,h2,fun j hj=>zg_ (h3 j hj) (hne _ h1 hv)⟩
theorem yO_ (h:GRow lo W p vs) (hg:g < lo):∀ x,p=some x->vs≠[]->x.block≠g:=fun x hx hv=>by
 rcases h with h | ⟨b,off,h1,h2,_⟩
 ·exact absurd h hv
 ·rw [h1] at hx;cases hx;show b≠g
  omega
theorem oP_ (h:GRow lo W p vs):∀ x,p=some x->vs≠[]->x.block≠W.heap.size:=fun x hx hv=>by
 rcases h with h | ⟨b,off,h1,h2,h3⟩
 ·exact absurd h hv
 ·rw [h1] at hx;cases hx;exact Nat.ne_of_lt (GRow.lt (lo:=lo) h3 hv)
def NoX (o:No) (b:Nat):Prop:=(∀ x,o.p0=some x->zp_ o.ms≠[]->x.block≠b)∧(∀ x,o.p1=some x->zl_ o.x.fd≠[]->x.block≠b)∧(∀ x,o.p2=some x->V o.su≠[]->x.block≠b)∧(∀ x,o.p3=some x->V o.un≠[]->x.block≠b)∧∀ m ∈ o.ms,∀ x,m.p=some x->flat m.c.l≠[]->x.block≠b
theorem xh_ (h:GRow lo W p vs) (hb:W.heap.size<=b):∀ x,p=some x->vs≠[]->x.block≠b:=fun x hx hv=>by
 rcases h with h | ⟨c,off,h1,h2,h3⟩
 ·exact absurd h hv
 ·rw [h1] at hx;cases hx
  have:=GRow.lt (lo:=lo) h3 hv
  show c≠b
  omega
theorem zU_ (h:NoR lo W o) (hb:W.heap.size<=b):NoX o b:=⟨xh_ h.r0 hb,xh_ h.r1 hb,xh_ h.r2 hb,xh_ h.r3 hb,fun m hm=>xh_ (h.rs m hm).1 hb⟩
theorem NoR.oth (h:NoR lo W o) (hx:NoX o b):NoR lo (W.setCell ⟨b,i,none⟩ u) o:=⟨h.cs,h.r0.oth hx.1,h.r1.oth hx.2.1,h.r2.oth hx.2.2.1,h.r3.oth hx.2.2.2.1,fun m hm=>⟨(h.rs m hm).1.oth (hx.2.2.2.2 m hm),(h.rs m hm).2⟩,h.le⟩
theorem qd_ {c:Cl} {p1 p3:Option Addr} {c3:Nat} {x:Nd} (hb:b < l0) (h:NoX o b) (hr:GRow l0 W p (flat c.l)) (hg:GRow l0 W p' (zp_ (setM ⟨c,p,q⟩ o.ms))) (h1:∀ y,p1=some y->zl_ x.fd≠[]->y.block≠b) (h3:GRow l0 W p3 (V un)) :
  NoX ⟨x,setM ⟨c,p,q⟩ o.ms,p',c',p1,c1,o.p2,o.c2,p3,c3,o.su,un⟩ b:=by
 refine ⟨yO_ hg hb,h1,h.2.2.1,yO_ h3 hb,fun m hm=>?_⟩;rcases yd_ hm with rfl | hm
 ·exact yO_ hr hb
 ·exact h.2.2.2.2 m hm
theorem uf_ {c:Cl} {p1 p3:Option Addr} {c3:Nat} {x:Nd} (h:NoR lo w o) (hB:Below w.heap.size w W) (hr:GRow lo W p (flat c.l)) (hq:c.l.length<=q) (hg:GRow lo W p' (zp_ (setM ⟨c,p,q⟩ o.ms))) (hc:(setM ⟨c,p,q⟩ o.ms).length<=c') (hx:x.cs=setC c o.x.cs) (h1:GRow lo W p1 (zl_ x.fd)) (k1:x.fd.length<=c1) (h3:GRow lo W p3 (V un)) (k3:un.length<=c3) :
  NoR lo W ⟨x,setM ⟨c,p,q⟩ o.ms,p',c',p1,c1,o.p2,o.c2,p3,c3,o.su,un⟩:=by
 refine ⟨?_,hg,h1,(h.next hB).r2,h3,fun y hy=>?_,hc,k1,h.le.2.2.1,k3⟩
 ·rw [xn_,<- h.cs];exact hx
 ·rcases yd_ hy with rfl | hy
  ·exact ⟨hr,hq⟩
  ·exact (h.next hB).rs y hy
theorem yL_ (h:OwnT W v ss lo):∃ p c,v=.slice p ss.length c∧ss.length<=c∧GRow lo W p (V ss):=yi_ h.own h.ge
def JnP (lo:Nat) (w:World) (o:No) (c:Cl) (e:Ending) (w':World):Prop:=
 (xj_ (atC c.k o.x.cs) (jnC (atC c.k o.x.cs) c)∧e=.returned (.tuple #[nV o,.bool false,.int .i64 0])∧Below w.heap.size w w') ∨
 (¬ xj_ (atC c.k o.x.cs) (jnC (atC c.k o.x.cs) c)∧∃ u:No,e=.returned (.tuple #[nV u,.bool true,.int .i64 0])∧NoR lo w' u∧u.x=nxt o.x (false,(jnC (atC c.k o.x.cs) c))∧u.su=o.su∧u.un=o.un++[zq_ (recT false (jnC (atC c.k o.x.cs) c))]∧(∀ b,b < w.heap.size->NoX o b->NoX u b)∧Below w.heap.size w w')
theorem te_ (lo:Nat) (o:No) (c:Cl) (p:Option Addr) (q:Nat) (w:World) (hlo:lo<=w.heap.size) (hm:o.ms.length < 100) (hs:o.su.length+o.un.length < 300) (hid:o.x.id=0∨o.x.id=1∨o.x.id=2) (hH:OkP (atC c.k o.x.cs).l (atC c.k o.x.cs).a (atC c.k o.x.cs).b (atC c.k o.x.cs).c) (hC:OkP c.l c.a c.b c.c) (hJ:OkP (jnC (atC c.k o.x.cs) c).l (jnC (atC c.k o.x.cs) c).a (jnC (atC c.k o.x.cs) c).b (jnC (atC c.k o.x.cs) c).c) (hle:comp (jnC (atC c.k o.x.cs) c).a (jnC (atC c.k o.x.cs) c).b (jnC (atC c.k o.x.cs) c).c o.x.id<=o.x.n) (hk:c.k.size<=6) (h0:NoR lo w o) (hr0:GRow lo w p (flat c.l)) (hq0:c.l.length<=q) :
  Calls Tryz.prog 68 #[nV o,.string c.k,.agg #[.slice p c.l.length q,.int .i64 c.a,.int .i64 c.b,.int .i64 c.c]] w fun e w'=>JnP lo w o c e w':=by
 (try unfold nV);have h:Hid (NoR lo w o):=h0;have HR:=hm_ hr0;have HQ:Hid (c.l.length<=q):=hq0;have HLO:=hm_ hlo;have HO:Hid (OkP (atC c.k o.x.cs).l (atC c.k o.x.cs).a (atC c.k o.x.cs).b (atC c.k o.x.cs).c∧OkP c.l c.a c.b c.c∧OkP (jnC (atC c.k o.x.cs) c).l (jnC (atC c.k o.x.cs) c).a (jnC (atC c.k o.x.cs) c).b (jnC (atC c.k o.x.cs) c).c):=⟨hH,hC,hJ⟩;have HLE:=hm_ hle;have CO:Hid (∀ W,NoR lo W o->Calls Tryz.prog 102 #[nV o,.string c.k] W fun e w'=>ObjP lo W o c.k e w'):=fun W hW=>xR_ lo o c.k W (by omega) hW
 clear h0 hr0 hq0 hlo hH hC hJ hle;have B0:Hid (Below w.heap.size w (((w.alloc (.cells (nL o).toArray 29)).alloc (.cells #[.slice p c.l.length q,.int .i64 c.a,.int .i64 c.b,.int .i64 c.c] 37)).alloc (.cells nZ.toArray 29))):=((zb_ _ _).trans ((zb_ _ _).mono (by simp))).trans ((zb_ _ _).mono (by first | (simp; done) | (simp; omega)));have X0:Hid (Box (((w.alloc (.cells (nL o).toArray 29)).alloc (.cells #[.slice p c.l.length q,.int .i64 c.a,.int .i64 c.b,.int .i64 c.c] 37)).alloc (.cells nZ.toArray 29)) w.heap.size (nL o)∧Box (((w.alloc (.cells (nL o).toArray 29)).alloc (.cells #[.slice p c.l.length q,.int .i64 c.a,.int .i64 c.b,.int .i64 c.c] 37)).alloc (.cells nZ.toArray 29)) (w.heap.size+1) [.slice p c.l.length q,.int .i64 c.a,.int .i64 c.b,.int .i64 c.c]∧Box (((w.alloc (.cells (nL o).toArray 29)).alloc (.cells #[.slice p c.l.length q,.int .i64 c.a,.int .i64 c.b,.int .i64 c.c] 37)).alloc (.cells nZ.toArray 29)) (w.heap.size+1+1) nZ):=⟨zn_.alloc.alloc,by have:=(zn_ (W:=w.alloc (.cells (nL o).toArray 29)) (t:=37) (vs:=[.slice p c.l.length q,.int .i64 c.a,.int .i64 c.b,.int .i64 c.c])).alloc (ob:=.cells nZ.toArray 29); simpa using this,by have:=zn_ (W:=(w.alloc (.cells (nL o).toArray 29)).alloc (.cells #[.slice p c.l.length q,.int .i64 c.a,.int .i64 c.b,.int .i64 c.c] 37)) (t:=29) (vs:=nZ); simpa using this⟩;go_enter Tryz.func68,Tryz.ntmps68;go_upto_region 2 with (first | (generalize hW0:(((w.alloc (.cells (nL o).toArray 29)).alloc (.cells #[.slice p c.l.length q,.int .i64 c.a,.int .i64 c.b,.int .i64 c.c] 37)).alloc (.cells nZ.toArray 29))=W0 at *; go_at_call 102; refine (CO.out _ (h.out.next B0.out)).mono ?_; rintro e w1 ⟨p1,q1,rfl,hg1,hq1,hb1⟩));obtain ⟨H,hH⟩:∃ H:Cl,H=(atC c.k o.x.cs):=⟨_,rfl⟩;rw [<- hH] at hg1 hq1 HO HLE ⊢;obtain ⟨J,hJ⟩:∃ J:Cl,J=jnC H c:=⟨_,rfl⟩;rw [<- hJ] at HO HLE;have HEQ:Hid (H=(atC c.k o.x.cs)∧J=jnC H c):=⟨hH,hJ⟩;clear hH hJ;refine zH_ (fun W=>Box W w.heap.size (nL o)∧Box W (w.heap.size+1) [.slice p c.l.length q,.int .i64 c.a,.int .i64 c.b,.int .i64 c.c]∧Box W (w.heap.size+1+1) nZ∧Box W w1.heap.size [.slice p1 H.l.length q1,.int .i64 H.a,.int .i64 H.b,.int .i64 H.c]∧Below w.heap.size w W∧GRow lo W p1 (flat H.l)∧w.heap.size+3<=w1.heap.size) ⟨(X0.out.1.next hb1).alloc,(X0.out.2.1.next hb1).alloc,(X0.out.2.2.next hb1).alloc,zn_,(B0.out.trans (hb1.mono B0.out.size)).trans ((zb_ _ _).mono (Nat.le_trans B0.out.size hb1.size)),hg1.next (zb_ _ _),Nat.le_trans (show w.heap.size+3<=W0.heap.size by have:=X0.out.2.2.lt; omega) hb1.size⟩ (fun W2 hI=>?_);have X2:Hid _:=hI;generalize w1.heap.size=g9 at *;have HQ1:=hm_ hq1;clear hI X0 B0 hg1 hb1 CO hq1 hW0;obtain ⟨y0,y1,y2,y3⟩:=X2.out.2.2.2.1.c4;obtain ⟨z0,z1,z2,z3⟩:=X2.out.2.1.c4
 have CJ:Hid (Calls Tryz.prog 130 #[.agg #[.slice p1 H.l.length q1,.int .i64 H.a,.int .i64 H.b,.int .i64 H.c],.agg #[.slice p c.l.length q,.int .i64 c.a,.int .i64 c.b,.int .i64 c.c]] W2 fun e w'=>∃ v,e=.returned (.agg #[v,.int .i64 J.a,.int .i64 J.b,.int .i64 J.c])∧Gro W2 w' (.slice none 0 0) v∧w'.ownsRow 0 89 4 v J.l.length (flat J.l)):=by
  rw [HEQ.out.2];exact vK_ q1 q p1 p H.l c.l H.a H.b H.c c.a c.b c.c W2 HO.out.1 HO.out.2.1 HQ.out X2.out.2.2.2.2.2.1.sib (HR.out.next X2.out.2.2.2.2.1).sib
 go_upto_region 3 with (first | (go_at_call 130; refine CJ.out.mono ?_; rintro e w2 ⟨v2,rfl,hG2,hO2⟩; obtain ⟨vo,vc,rfl⟩:=y0_ hO2));have hb2:Below W2.heap.size W2 w2:=hG2.below (Nat.le_refl _) (fun k hk=>absurd hk Gro.none_ne);obtain ⟨pj,cj,ej,hcj,hgj⟩:=yi_ (lo:=W2.heap.size) hO2 (fun k hk=>by rcases hG2.fresh k hk with e | e; exact absurd e Gro.none_ne; exact e);cases ej;refine zH_ (fun W=>Box W w.heap.size (nL o)∧Box W (w.heap.size+1) [.slice p c.l.length q,.int .i64 c.a,.int .i64 c.b,.int .i64 c.c]∧Box W (w.heap.size+1+1) nZ∧Box W g9 [.slice p1 H.l.length q1,.int .i64 H.a,.int .i64 H.b,.int .i64 H.c]∧Box W w2.heap.size [.slice vo J.l.length vc,.int .i64 J.a,.int .i64 J.b,.int .i64 J.c]∧Below w.heap.size w W∧GRow lo W p1 (flat H.l)∧GRow (w.heap.size+3) W vo (flat J.l)∧w.heap.size+3<=w2.heap.size∧g9 < w2.heap.size) ⟨(X2.out.1.next hb2).alloc,(X2.out.2.1.next hb2).alloc,(X2.out.2.2.1.next hb2).alloc,(X2.out.2.2.2.1.next hb2).alloc,zn_,(X2.out.2.2.2.2.1.trans (hb2.mono X2.out.2.2.2.2.1.size)).trans ((zb_ _ _).mono (Nat.le_trans X2.out.2.2.2.2.1.size hb2.size)),(X2.out.2.2.2.2.2.1.next hb2).next (zb_ _ _),(hgj.next (zb_ _ _)).weak (show w.heap.size+3<=W2.heap.size by have:=X2.out.2.2.1.lt; omega),Nat.le_trans (show w.heap.size+3<=W2.heap.size by have:=X2.out.2.2.1.lt; omega) hb2.size,Nat.lt_of_lt_of_le X2.out.2.2.2.1.lt hb2.size⟩ (fun W3 hI=>?_);have X3:Hid _:=hI;generalize w2.heap.size=g10 at *;have HCJ:=hm_ hcj;clear hI X2 CJ hG2 hO2 hb2 hgj hcj y0 y1 y2 y3 z0 z1 z2 z3;obtain ⟨y0,y1,y2,y3⟩:=X3.out.2.2.2.1.c4;obtain ⟨z0,z1,z2,z3⟩:=X3.out.2.2.2.2.1.c4
 obtain ⟨r,hr⟩:∃ r:Bool,r=true↔xj_ H J:=by
  by_cases hS:xj_ H J
  ·exact ⟨true,by simp [hS]⟩
  ·exact ⟨false,by simp [hS]⟩
 have CS:Hid (Calls Tryz.prog 131 #[.agg #[.slice p1 H.l.length q1,.int .i64 H.a,.int .i64 H.b,.int .i64 H.c],.agg #[.slice vo J.l.length vc,.int .i64 J.a,.int .i64 J.b,.int .i64 J.c]] W3 _):=xt_ q1 vc p1 vo H.l J.l H.a H.b H.c J.a J.b J.c r hr W3 (by have:=HO.out.1.1; omega) (by have:=HO.out.2.2.1; omega) X3.out.2.2.2.2.2.2.1.sib X3.out.2.2.2.2.2.2.2.1.sib;have HRS:=hm_ hr;clear hr;cases r
 ·have HNS:Hid (¬ xj_ H J):=fun e=>by have:=HRS.out.2 e; cases this
  have HK:Hid (J.k=c.k):=by show _=_; rw [HEQ.out.2]; rfl
  have hKn:¬ (o.x.n < comp J.a J.b J.c o.x.id):=by have:=HLE.out; omega
  have hi0:(0:Int)<=o.x.id:=by omega
  have hi3:o.x.id < 3:=by omega
  go_upto_region 5 with (first | (go_at_call 131; refine CS.out.mono ?_; rintro e w3 ⟨rfl,hb3⟩));refine zH_ (fun W=>Box W w.heap.size (nL o)∧Box W (w.heap.size+1) [.slice p c.l.length q,.int .i64 c.a,.int .i64 c.b,.int .i64 c.c]∧Box W (w.heap.size+1+1) nZ∧Box W g10 [.slice vo J.l.length vc,.int .i64 J.a,.int .i64 J.b,.int .i64 J.c]∧Below w.heap.size w W∧GRow (w.heap.size+3) W vo (flat J.l)∧w.heap.size+3<=g10) ⟨X3.out.1.next hb3,X3.out.2.1.next hb3,X3.out.2.2.1.next hb3,X3.out.2.2.2.2.1.next hb3,X3.out.2.2.2.2.2.1.trans (hb3.mono X3.out.2.2.2.2.2.1.size),X3.out.2.2.2.2.2.2.2.1.next hb3,X3.out.2.2.2.2.2.2.2.2.1⟩ (fun W4 hI=>?_);have X4:Hid _:=hI;clear hI X3 CS HRS hb3 y0 y1 y2 y3 z0 z1 z2 z3;obtain ⟨K,hK0⟩:∃ K:Int,K=comp J.a J.b J.c o.x.id:=⟨_,rfl⟩
  have zk:W4.cell? ⟨g10,1+o.x.id.toNat,none⟩=some (.int .i64 K):=by
   obtain ⟨z0,z1,z2,z3⟩:=X4.out.2.2.2.1.c4;rw [hK0];rcases hid with e | e | e <;> rw [e] <;> assumption
  rw [<- hK0] at hKn;have hKd:decide (o.x.n < K)=false:=decide_eq_false (by omega);clear hK0;obtain ⟨b0,b1,b2,b3,b4,b5,b6⟩:=X4.out.1.c7;refine wp_region_held_drew (S:=(fun w'=>w'.cell? ⟨w.heap.size,0,none⟩=some (.int .i64 o.x.id)∧w'.cell? ⟨w.heap.size,1,none⟩=some (.int .i64 o.x.n)∧w'.cell? ⟨g10,1+o.x.id.toNat,none⟩=some (.int .i64 K))) (by kernel_rfl) ?_ (fun hH=>?_)
  ·(try dsimp only);exact ⟨b0,b1,zk⟩
  refine wTk 0 ?_;refine wTk 1 ?_;refine wTk 2 ?_;refine wTk 3 ?_;refine wTk 4 ?_;refine wTk 5 ?_;refine wTk 6 ?_;refine wTk 7 ?_;refine wDn ?_;clear hH zk;go_upto_region 7 with fail;refine zH_ (fun W=>Box W w.heap.size (nL o)∧Box W (w.heap.size+1) [.slice p c.l.length q,.int .i64 c.a,.int .i64 c.b,.int .i64 c.c]∧Box W (w.heap.size+1+1) nZ∧Box W g10 [.slice vo J.l.length vc,.int .i64 J.a,.int .i64 J.b,.int .i64 J.c]∧Below w.heap.size w W∧GRow (w.heap.size+3) W vo (flat J.l)∧w.heap.size+3<=g10) ⟨X4.out.1.next (zd_ _),X4.out.2.1.next (zd_ _),X4.out.2.2.1.next (zd_ _),X4.out.2.2.2.1.next (zd_ _),X4.out.2.2.2.2.1.trans ((zd_ _).mono X4.out.2.2.2.2.1.size),X4.out.2.2.2.2.2.1.next (zd_ _),X4.out.2.2.2.2.2.2⟩ (fun W5 hI=>?_);have X5:Hid _:=hI;clear hI X4 b0 b1 b2 b3 b4 b5 b6 hKn hKd;obtain ⟨b0,b1,b2,b3,b4,b5,b6⟩:=X5.out.1.c7;obtain ⟨z0,z1,z2,z3⟩:=X5.out.2.2.2.1.c4;have CR:Hid (Calls Tryz.prog 103 #[nV o,.string c.k,.agg #[.slice vo J.l.length vc,.int .i64 J.a,.int .i64 J.b,.int .i64 J.c]] W5 _):=uS_ lo o c.k J vo vc W5 hs hm HO.out.2.2.1 (h.out.next X5.out.2.2.2.2.1);go_upto_region 10 with (first | (go_at_call 103; refine CR.out.mono ?_; rintro e w4 ⟨rfl,hb4⟩));refine zH_ (fun W=>Box W w.heap.size (nL o)∧Box W (w.heap.size+1) [.slice p c.l.length q,.int .i64 c.a,.int .i64 c.b,.int .i64 c.c]∧Box W (w.heap.size+1+1) nZ∧Box W g10 [.slice vo J.l.length vc,.int .i64 J.a,.int .i64 J.b,.int .i64 J.c]∧Below w.heap.size w W∧GRow (w.heap.size+3) W vo (flat J.l)∧w.heap.size+3<=g10) ⟨X5.out.1.next hb4,X5.out.2.1.next hb4,X5.out.2.2.1.next hb4,X5.out.2.2.2.1.next hb4,X5.out.2.2.2.2.1.trans (hb4.mono X5.out.2.2.2.2.1.size),X5.out.2.2.2.2.2.1.next hb4,X5.out.2.2.2.2.2.2⟩ (fun W6 hI=>?_);have X6:Hid _:=hI;clear hI X5 CR hb4 b0 b1 b2 b3 b4 b5 b6 z0 z1 z2 z3;obtain ⟨b0,b1,b2,b3,b4,b5,b6⟩:=X6.out.1.c7;obtain ⟨z0,z1,z2,z3⟩:=X6.out.2.2.2.1.c4
  have CT:Hid (Calls Tryz.prog 104 #[nV o,.string c.k,.agg #[.slice vo J.l.length vc,.int .i64 J.a,.int .i64 J.b,.int .i64 J.c]] W6 fun e w'=>SetP lo W6 o J vo vc e w'):=by
   have:=wL_ lo o J vo vc W6 (Nat.le_trans HLO.out X6.out.2.2.2.2.1.size) (by omega) (h.out.next X6.out.2.2.2.2.1) (X6.out.2.2.2.2.2.1.weak (by have:=HLO.out; omega)) HCJ.out
   rw [HK.out] at this;exact this
  go_upto_region 11 with (first | (go_at_call 104; refine CT.out.mono ?_; rintro e w5 ⟨p',c',rfl,hN5,hg5,hc5,hb5⟩; obtain ⟨t0,t1,t2,t3,t4,t5,t6⟩:=(X6.out.1.next hb5).c7; obtain ⟨s0,s1,s2,s3,s4,s5,s6⟩:=(X6.out.1.next hb5).f7));refine zH_ (fun W=>Box W w.heap.size [.int .i64 o.x.id,.int .i64 o.x.n,.int .i64 o.x.cut,.slice p' (setM ⟨J,vo,vc⟩ o.ms).length c',.slice o.p1 o.x.fd.length o.c1,.slice o.p2 o.su.length o.c2,.slice o.p3 o.un.length o.c3]∧Box W (w.heap.size+1+1) nZ∧Box W g10 [.slice vo J.l.length vc,.int .i64 J.a,.int .i64 J.b,.int .i64 J.c]∧Below w.heap.size w W∧GRow (w.heap.size+3) W vo (flat J.l)∧GRow (w.heap.size+3) W p' (zp_ (setM ⟨J,vo,vc⟩ o.ms))∧w.heap.size+3<=g10) ?_ (fun W7 hI=>?_)
  ·refine ⟨(X6.out.1.next hb5).s7,(X6.out.2.2.1.next hb5).o7 (by omega),(X6.out.2.2.2.1.next hb5).o7 (by have:=X6.out.2.2.2.2.2.2; omega),?_,?_,?_,X6.out.2.2.2.2.2.2⟩
   ·repeat (refine zt_ ?_ (by omega))
    exact X6.out.2.2.2.2.1.trans (hb5.mono X6.out.2.2.2.2.1.size)
   ·repeat (refine GRow.keep ?_ (zc_ (by omega)))
    exact X6.out.2.2.2.2.2.1.next hb5
   ·repeat (refine GRow.keep ?_ (zc_ (by omega)))
    exact hg5.weak (by have:=X6.out.2.2.1.lt; omega)
  have X7:Hid _:=hI;have HC5:=hm_ hc5;clear hI X6 CT hN5 hg5 hc5 hb5 b0 b1 b2 b3 b4 b5 b6 z0 z1 z2 z3 t0 t1 t2 t3 t4 t5 t6 s0 s1 s2 s3 s4 s5 s6;obtain ⟨b0,b1,b2,b3,b4,b5,b6⟩:=X7.out.1.c7;obtain ⟨z0,z1,z2,z3⟩:=X7.out.2.2.1.c4;have C3:Hid (∀ W,GRow (w.heap.size+3) W vo (flat J.l)->Calls Tryz.prog 105 #[.agg #[.slice vo J.l.length vc,.int .i64 J.a,.int .i64 J.b,.int .i64 J.c]] W fun e w'=>e=.returned (.string ⟨(objT (vvT J.a J.b J.c) J.l).toArray⟩)∧Below W.heap.size W w'):=fun W hW=>vJ_ vc vo J.l J.a J.b J.c _ W (vZ_ HO.out.2.2.2.1) HO.out.2.2.1 (fun s hs=>by obtain ⟨i,hi,rfl⟩:=List.mem_iff_getElem.1 hs; exact (HO.out.2.2.2.2 i hi).1) hW.sib (vvS HO.out.2.2.2.1)
  have CA:Hid (∀ W,Below w.heap.size w W->Calls Tryz.prog 82 #[.agg #[.slice o.p2 o.su.length o.c2,.slice o.p3 o.un.length o.c3],.string (((⟨#[106,111,105,110,32]⟩++c.k)++⟨#[32]⟩)++⟨(objT (vvT J.a J.b J.c) J.l).toArray⟩)] W fun e w'=>∃ p c,e=.returned (.agg #[.slice o.p2 o.su.length o.c2,.slice p (o.un.length+1) c])∧Below W.heap.size W w'∧OwnT w' (.slice p (o.un.length+1) c) (o.un++[zq_ (recT false J)]) W.heap.size):=fun W hW=>by
   have hrec:recT false J=(((⟨#[106,111,105,110,32]⟩++c.k)++⟨#[32]⟩)++⟨(objT (vvT J.a J.b J.c) J.l).toArray⟩:ByteArray):=by
    unfold recT;rw [HK.out];rfl
   have hsz:=yn_ false J (by rw [HK.out]; exact hk) HO.out.2.2
   have:=xs_ (.slice o.p2 o.su.length o.c2) (.slice o.p3 o.un.length o.c3) o.su o.un (recT false J) W hsz (by omega) (by omega) (h.out.next hW).row.1 (h.out.next hW).row.2
   rw [hrec] at this ⊢;refine this.mono ?_;rintro e w' ⟨p,c,h1,h2,_,h4⟩;exact ⟨p,c,h1,h2,h4⟩
  have hol:(objT (vvT J.a J.b J.c) J.l).length<=4000:=y9_ HO.out.2.2;have hz1:¬ (9223372036854775807 < 5+c.k.size):=by omega
  have hz2:¬ (9223372036854775807 < 5+c.k.size+1):=by omega
  have hz3:¬ (9223372036854775807 < 5+c.k.size+1+(objT (vvT J.a J.b J.c) J.l).length):=by omega
  refine wp_region_held_drew (S:=(fun w'=>w'.cell? ⟨g10,0,none⟩=some (.slice vo J.l.length vc)∧w'.cell? ⟨g10,1,none⟩=some (.int .i64 J.a)∧w'.cell? ⟨g10,2,none⟩=some (.int .i64 J.b)∧w'.cell? ⟨g10,3,none⟩=some (.int .i64 J.c))) (by kernel_rfl) ?_ (fun hH=>?_)
  ·(try dsimp only);exact ⟨z0,z1,z2,z3⟩
  refine wTk 0 ?_;refine wTk 2 ?_;refine wTk 3 ?_;refine wTk 4 ?_;refine wTk 5 ?_;have hng:w.heap.size≠g10:=by have:=X7.out.2.2.2.2.2.2; omega
  refine wpAnyH_ready (rs:=[1,6]) (by kernel_rfl) (by simp) ?_;refine .cons rfl (fun K hK=>?_) (.cons rfl (fun K hK=>?_) .nil)
  focus
   refine wLy ?_;go_simp;(try simp only []);refine wHk hK (⟨z0,z1,z2,z3⟩) ?_;clear hK K hH;intro hH;refine wRd 6 (fun K hK=>?_);go_simp;go_at_call 105;refine (C3.out _ (X7.out.2.2.2.2.1.next (zd_ _))).mono ?_;rintro e w7 ⟨rfl,hb7⟩;(try simp only []);obtain ⟨v0,v1,v2,v3⟩:=((X7.out.2.2.1.next (zd_ _)).next hb7).c4;refine wHk hK (⟨v0,v1,v2,v3⟩) ?_;clear hK K hH;intro hH;refine wTk 7 ?_;have X8:Hid _:=(⟨(X7.out.1.next (zd_ _)).next hb7,(X7.out.2.1.next (zd_ _)).next hb7,(X7.out.2.2.1.next (zd_ _)).next hb7,(X7.out.2.2.2.1.trans ((zd_ _).mono X7.out.2.2.2.1.size)).trans (hb7.mono X7.out.2.2.2.1.size),(X7.out.2.2.2.2.1.next (zd_ _)).next hb7,(X7.out.2.2.2.2.2.1.next (zd_ _)).next hb7⟩:Box w7 w.heap.size [.int .i64 o.x.id,.int .i64 o.x.n,.int .i64 o.x.cut,.slice p' (setM ⟨J,vo,vc⟩ o.ms).length c',.slice o.p1 o.x.fd.length o.c1,.slice o.p2 o.su.length o.c2,.slice o.p3 o.un.length o.c3]∧Box w7 (w.heap.size+1+1) nZ∧Box w7 g10 [.slice vo J.l.length vc,.int .i64 J.a,.int .i64 J.b,.int .i64 J.c]∧Below w.heap.size w w7∧GRow (w.heap.size+3) w7 vo (flat J.l)∧GRow (w.heap.size+3) w7 p' (zp_ (setM ⟨J,vo,vc⟩ o.ms)));clear hb7 z0 z1 z2 z3 b0 b1 b2 b3 b4 b5 b6 v0 v1 v2 v3
  rotate_left
  focus
   refine wLy ?_;go_simp;go_at_call 105;refine (C3.out _ (X7.out.2.2.2.2.1.next (zd_ _))).mono ?_;rintro e w7 ⟨rfl,hb7⟩;(try simp only []);obtain ⟨v0,v1,v2,v3⟩:=((X7.out.2.2.1.next (zd_ _)).next hb7).c4;refine wHk hK (⟨v0,v1,v2,v3⟩) ?_;clear hK K hH;intro hH;refine wTk 7 ?_;obtain ⟨e0,e1,e2,e3,e4,e5,e6⟩:=((X7.out.1.next (zd_ _)).next hb7).c7;refine wRd 1 (fun K hK=>?_);go_simp;(try simp only []);refine wHk hK (⟨v0,v1,v2,v3⟩) ?_;clear hK K hH;intro hH;have X8:Hid _:=(⟨(X7.out.1.next (zd_ _)).next hb7,(X7.out.2.1.next (zd_ _)).next hb7,(X7.out.2.2.1.next (zd_ _)).next hb7,(X7.out.2.2.2.1.trans ((zd_ _).mono X7.out.2.2.2.1.size)).trans (hb7.mono X7.out.2.2.2.1.size),(X7.out.2.2.2.2.1.next (zd_ _)).next hb7,(X7.out.2.2.2.2.2.1.next (zd_ _)).next hb7⟩:Box w7 w.heap.size [.int .i64 o.x.id,.int .i64 o.x.n,.int .i64 o.x.cut,.slice p' (setM ⟨J,vo,vc⟩ o.ms).length c',.slice o.p1 o.x.fd.length o.c1,.slice o.p2 o.su.length o.c2,.slice o.p3 o.un.length o.c3]∧Box w7 (w.heap.size+1+1) nZ∧Box w7 g10 [.slice vo J.l.length vc,.int .i64 J.a,.int .i64 J.b,.int .i64 J.c]∧Below w.heap.size w w7∧GRow (w.heap.size+3) w7 vo (flat J.l)∧GRow (w.heap.size+3) w7 p' (zp_ (setM ⟨J,vo,vc⟩ o.ms)));clear hb7 z0 z1 z2 z3 b0 b1 b2 b3 b4 b5 b6 v0 v1 v2 v3 e0 e1 e2 e3 e4 e5 e6
  rotate_left
  all_goals
   obtain ⟨v0,v1,v2,v3⟩:=X8.out.2.2.1.c4;refine wRd 8 (fun K hK=>?_);go_simp;go_at_call 82;refine (CA.out _ X8.out.2.2.2.1).mono ?_;rintro e w8 ⟨p9,c9,rfl,hb8,hO8⟩;(try simp only []);obtain ⟨m0,m1,m2,m3⟩:=(X8.out.2.2.1.next hb8).c4;refine wHk hK (⟨m0,m1,m2,m3⟩) ?_;clear hK K hH;intro hH;refine wTk 9 ?_;obtain ⟨e0,e1,e2,e3,e4,e5,e6⟩:=(X8.out.1.next hb8).c7;obtain ⟨f0,f1,f2,f3,f4,f5,f6⟩:=(X8.out.1.next hb8).f7;refine wRd 10 (fun K hK=>?_);go_simp;(try simp only []);refine hK.out _ _ ?_ (fun hH'=>?_)
   ·(try dsimp only);exact ⟨zg_ (zg_ m0 hng.symm) hng.symm,zg_ (zg_ m1 hng.symm) hng.symm,zg_ (zg_ m2 hng.symm) hng.symm,zg_ (zg_ m3 hng.symm) hng.symm⟩
   clear hK K hH hH';refine wLy ?_;refine wDn ?_;obtain ⟨a0,a1,a2,a3,a4,a5,a6⟩:=(X8.out.2.1.next hb8).c7;obtain ⟨g0,g1,g2,g3,g4,g5,g6⟩:=(X8.out.2.1.next hb8).f7;have X9:Hid (Below w.heap.size w w8∧GRow (w.heap.size+3) w8 vo (flat J.l)∧GRow (w.heap.size+3) w8 p' (zp_ (setM ⟨J,vo,vc⟩ o.ms))∧OwnT w8 (.slice p9 (o.un.length+1) c9) (o.un++[zq_ (recT false J)]) (w.heap.size+3)):=⟨X8.out.2.2.2.1.trans (hb8.mono X8.out.2.2.2.1.size),X8.out.2.2.2.2.1.next hb8,X8.out.2.2.2.2.2.next hb8,hO8.weak (by have:=X8.out.2.1.lt; omega)⟩;clear hb8 hO8 m0 m1 m2 m3 v0 v1 v2 v3 X8 CA C3;go_wp2;refine bodyPost_ret (v:=.tuple #[.agg #[.int .i64 o.x.id,.int .i64 o.x.n,.int .i64 o.x.cut,.slice p' (setM ⟨J,vo,vc⟩ o.ms).length c',.slice o.p1 o.x.fd.length o.c1,.slice o.p2 o.su.length o.c2,.slice p9 (o.un.length+1) c9],.bool true,.int .i64 0]) (by simp [results,Tryz.results68,go_sem, *]) rfl ?_;have HBF:Below w.heap.size w w8:=X9.out.1;refine Or.inr ⟨by rw [<- HEQ.out.1,<- HEQ.out.2]; exact HNS.out,⟨nxt o.x (false,J),setM ⟨J,vo,vc⟩ o.ms,p',c',o.p1,o.c1,o.p2,o.c2,p9,c9,o.su,o.un++[zq_ (recT false J)]⟩,by simp [nxt],?_,by rw [<- HEQ.out.1,<- HEQ.out.2],rfl,by rw [<- HEQ.out.1,<- HEQ.out.2],?_,?_⟩
   ·obtain ⟨pp,cc,ee,hcc,hgg⟩:=yL_ X9.out.2.2.2
    have e9:pp=p9∧cc=c9:=by
     simp at ee;exact ⟨ee.1.symm,ee.2.symm⟩
    obtain ⟨rfl,rfl⟩:=e9;refine uf_ h.out ?_ ?_ HCJ.out ?_ HC5.out rfl ?_ h.out.le.2.1 ?_ hcc
    ·repeat (refine zt_ ?_ (by omega))
     exact HBF
    ·refine GRow.weak (lo:=w.heap.size+3) ?_ (by have:=HLO.out; omega)
     repeat (refine GRow.keep ?_ (zc_ (by omega)))
     exact X9.out.2.1
    ·refine GRow.weak (lo:=w.heap.size+3) ?_ (by have:=HLO.out; omega)
     repeat (refine GRow.keep ?_ (zc_ (by omega)))
     exact X9.out.2.2.1
    ·refine (h.out.next ?_).r1
     repeat (refine zt_ ?_ (by omega))
     exact HBF
    ·refine GRow.weak (lo:=w.heap.size+3) ?_ (by have:=HLO.out; omega)
     repeat (refine GRow.keep ?_ (zc_ (by omega)))
     exact hgg
   ·intro b hb hx;obtain ⟨pp,cc,ee,hcc,hgg⟩:=yL_ X9.out.2.2.2
    have e9:pp=p9∧cc=c9:=by
     simp at ee;exact ⟨ee.1.symm,ee.2.symm⟩
    obtain ⟨rfl,rfl⟩:=e9;exact qd_ (l0:=w.heap.size+3) (by omega) hx X9.out.2.1 X9.out.2.2.1 hx.2.1 hgg
   ·repeat (refine zt_ ?_ (by omega))
    exact HBF
 ·have HSS:Hid (xj_ H J):=HRS.out.1 rfl;go_wp2_with (first | (go_at_call 131; refine CS.out.mono ?_; rintro e w3 ⟨rfl,hb3⟩; obtain ⟨b0,b1,b2,b3,b4,b5,b6⟩:=(X3.out.1.next hb3).c7; obtain ⟨a0,a1,a2,a3,a4,a5,a6⟩:=(X3.out.2.2.1.next hb3).c7; obtain ⟨f0,f1,f2,f3,f4,f5,f6⟩:=(X3.out.2.2.1.next hb3).f7));refine bodyPost_ret (v:=.tuple #[.agg #[.int .i64 o.x.id,.int .i64 o.x.n,.int .i64 o.x.cut,.slice o.p0 o.ms.length o.c0,.slice o.p1 o.x.fd.length o.c1,.slice o.p2 o.su.length o.c2,.slice o.p3 o.un.length o.c3],.bool false,.int .i64 0]) (by simp [results,Tryz.results68,go_sem, *]) rfl ?_;refine Or.inl ⟨by rw [<- HEQ.out.1,<- HEQ.out.2]; exact HSS.out,rfl,?_⟩
  repeat (refine zt_ ?_ (by omega))
  exact X3.out.2.2.2.2.2.1.trans (hb3.mono X3.out.2.2.2.2.2.1.size)
end
end Go.Proofs.YtijcjhcgpmnchaaGreatDoor
