/- Nodes, part 32 of the law FnTake. -/
import Derived.Test.YtijcjhcgpmnchaaGreatDoorM31
namespace Go.Proofs.YtijcjhcgpmnchaaGreatDoor
open Go.RowKit
set_option maxRecDepth 100000
set_option maxHeartbeats 16000000
set_option linter.unusedSimpArgs false
set_option linter.unusedVariables false
theorem uJ_ (s:ByteArray) (w:World) (hs:s.size < 1099511627776) :
  Calls Tryz.prog 159 #[.string s] w fun e w'=>OpP w s e w':=by
 go_enter Tryz.func159,Tryz.ntmps159;go_wp2;go_loopw [4,5] (fun s4 s5 wr=>∃ (i n:Nat),i<=s.size∧s5=.int .i64 i∧s4=.int .i64 n∧((n=0∧opn s.data.toList=opn (s.data.toList.drop i))∨(n=1∧opn s.data.toList=aft (s.data.toList.drop i)))∧Below w.heap.size w wr) (fun _ s5 _=>s.size - (intOf s5).toNat)
 case atStart=>exact ⟨0,0,by omega,rfl,rfl,.inl ⟨rfl,rfl⟩,Below.refl _ _⟩
 case round=>
  obtain ⟨i,n,hi,rfl,rfl,hn0,hB0⟩:=hrel;have HB:=hm_ hB0;clear hB0;have kk:(0:Int)<=(i:Int):=by omega
  by_cases hlt:i < s.size
  ·have hlt':(i:Int) < (s.size:Int):=by omega
   have hdr:=oZ_ s i hlt;by_cases hc:s[i]=58
   ·have hcb:(((s[i]'hlt).toNat:Int) == 58)=true:=by rw [beq_iff_eq]; have:=(c58 _).1 hc; omega
    rcases hn0 with ⟨rfl,hn⟩ | ⟨rfl,hn⟩
    ·have HN:Hid (opn s.data.toList=aft (s.data.toList.drop (i+1))):=by
      show _=_
      rw [hn,hdr];unfold opn;rw [show aft (s[i] :: s.data.toList.drop (i+1))=some (s.data.toList.drop (i+1)) by unfold aft; rw [if_pos hc]];rfl
     clear hn hdr hc;go_wp2
     go_roundw
     case rel=>exact ⟨i+1,1,by omega,by go_num,rfl,.inr ⟨rfl,HN.out⟩,HB.out⟩
     case measure=>simp [intOf]; omega
    ·have HN:Hid (opn s.data.toList=some (s.data.toList.drop (i+1))):=by
      show _=_
      rw [hn,hdr];unfold aft;rw [if_pos hc]
     obtain ⟨t,ht⟩:∃ t,t=s.extract (i+1) s.size:=⟨_,rfl⟩;have HT:Hid (t=⟨(s.data.toList.drop (i+1)).toArray⟩):=by show _=_; rw [ht,oV_ s (i+1) (by omega)]
     have hts:t.size < 1099511627776:=by rw [ht,ByteArray.size_extract]; omega
     have SE:Hid (∀ W:World,Calls Tryz.prog 138 #[.string (s.extract (i+1) s.size)] W fun e w'=>e=.returned (.string (zq_ t))∧Below W.heap.size W w'):=fun W=>by rw [<- ht]; exact wD_ t W hts
     have HO:Hid (y8_ s=if zq_ t=s then some t else none):=by
      show _=_
      unfold y8_;rw [HN.out];show (if zq_ ⟨(s.data.toList.drop (i+1)).toArray⟩=s then some (⟨(s.data.toList.drop (i+1)).toArray⟩:ByteArray) else none)=_
      rw [<- HT.out]
     have HX:=hm_ ht.symm;clear hn hdr hc ht HT;have k0:IntKind.i64.wrap ((i:Int)+1)=(i:Int)+1:=by rw [IntKind.wrap_i64]; omega
     have k1:(0:Int)<=(i:Int)+1:=by omega
     have k2:(i:Int)+1<=(s.size:Int):=by omega
     have k3:((i:Int)+1).toNat=i+1:=by omega
     generalize hq:zq_ t=q at *;go_wp2;refine wp_region_held_drew (S:=(fun w'=>Below w.heap.size w w')) (by kernel_rfl) ?_ (fun hH=>?_)
     ·(try dsimp only);exact (ze_ HB (zd_ _)).out
     refine wTk 0 ?_;refine wTk 1 ?_;refine wTk 2 ?_;refine wTk 3 ?_;refine wTk 4 ?_;refine wTk 5 ?_;refine wTk 6 ?_;refine wTk 7 ?_;refine wTk 9 ?_;refine wRd 8 (fun K hK=>?_);go_simp
     (go_at_call 138; refine Calls.mono (SE.out _) ?_; rintro e w2 ⟨rfl,hb⟩)
     (try simp only []);refine hK.out _ _ ?_ (fun hH'=>?_)
     ·(try dsimp only);exact (ze_ (w:=w) hH hb).out
     clear hK K hH;have hH:=hH';clear hH';clear hb;refine wLy ?_;refine wTk 10 ?_;refine wTk 11 ?_;refine wTk 12 ?_;refine wDn ?_;have HB9:Hid (Below w.heap.size w _):=hH;clear hH;go_wp2;go_ret2;refine ⟨t,(q.toList == s.toList),?_,HB9.out,?_,?_⟩
     ·exact retB HX.out rfl
     ·intro h;rw [HO.out,if_neg (fun e=>by have:=(Lib.bytes_beq_iff q s).2 e; rw [h] at this; cases this)]
     ·intro h;rw [HO.out,if_pos ((Lib.bytes_beq_iff q s).1 h)]
   ·have hcb:(((s[i]'hlt).toNat:Int) == 58)=false:=beq_eq_false_iff_ne.2 (fun e=>hc ((c58 _).2 (by omega)));rcases hn0 with ⟨rfl,hn⟩ | ⟨rfl,hn⟩
    ·have HN:Hid (opn s.data.toList=opn (s.data.toList.drop (i+1))):=by
      show _=_
      rw [hn,hdr];unfold opn;rw [show aft (s[i] :: s.data.toList.drop (i+1))=aft (s.data.toList.drop (i+1)) by conv=>lhs; unfold aft; rw [if_neg hc]]
     clear hn hdr hc;go_wp2
     go_roundw
     case rel=>exact ⟨i+1,0,by omega,by go_num,rfl,.inl ⟨rfl,HN.out⟩,HB.out⟩
     case measure=>simp [intOf]; omega
    ·have HN:Hid (opn s.data.toList=aft (s.data.toList.drop (i+1))):=by
      show _=_
      rw [hn,hdr]
      conv=>lhs; unfold aft; rw [if_neg hc]
     clear hn hdr hc;go_wp2
     go_roundw
     case rel=>exact ⟨i+1,1,by omega,by go_num,rfl,.inr ⟨rfl,HN.out⟩,HB.out⟩
     case measure=>simp [intOf]; omega
  ·have hlt':¬ (i:Int) < (s.size:Int):=by omega
   have HO:Hid (y8_ s=none):=by
    show _=_
    have hd:s.data.toList.drop i=[]:=List.drop_of_length_le (by rw [Array.length_toList]; show s.size<=i; omega)
    have ho:opn s.data.toList=none:=by
     rcases hn0 with ⟨_,hn⟩ | ⟨_,hn⟩
     ·rw [hn,hd]; rfl
     ·rw [hn,hd]; rfl
    unfold y8_;rw [ho];rfl
   clear hn0;go_wp2;go_ret2;refine ⟨⟨#[]⟩,false,?_,HB.out,?_,?_⟩
   ·rfl
   ·exact fun _=>HO.out
   ·intro h; cases h
theorem vr_ (v0 v1:Value) (ss us:List ByteArray) (w:World) (hn:ss.length<=1048576) (hn':us.length<=1048576) (hw0:∀ s ∈ ss,s.size<=1048576) (hr0:RowV w v0 ss) (hs0:RowV w v1 us) :
  Calls Tryz.prog 119 #[.agg #[v0,v1]] w (RP1 w (recL ss)):=by
 obtain ⟨ao,c0,rfl,_,hr0⟩:=hr0;obtain ⟨bo,c1,rfl,_,hs0⟩:=hs0;have RA:Hid (TRow w ao ss):=hr0;have HW:=hm_ hw0;obtain ⟨n,hn0⟩:∃ n,n=ss.length:=⟨_,rfl⟩;have HN:Hid (n=ss.length):=hn0;rw [<- hn0];rw [<- hn0] at hn;clear hn0 hr0 hs0 hw0
 have C0:Hid (RI w ((w.alloc (.cells #[.slice ao n c0,.slice bo us.length c1] 27)).alloc (.cells #[] 9)) (.slice ao n c0) (.slice bo us.length c1) (.slice (some ⟨w.heap.size+1,0,none⟩) 0 0) []):=by
  have h2:=OwnT.new (W:=(w.alloc (.cells #[.slice ao n c0,.slice bo us.length c1] 27))) (lo:=w.heap.size+1) (by simp);exact ⟨by go_simp,by go_simp,by simpa using h2,by simp,((Below.refl _ _).alloc (Nat.le_refl _) _).alloc (by simp) _⟩
 go_enter Tryz.func119,Tryz.ntmps119;go_wp2;go_loopw [3,4] (fun s3 s4 wr=>∃ (i:Nat) (l:List ByteArray) (vo:Option Addr) (vc N:Nat),i<=n∧s4=.int .i64 i∧s3=.slice vo N vc∧N=l.length∧(l++recL (ss.drop i)=recL ss∧l.length<=i)∧RI w wr (.slice ao n c0) (.slice bo us.length c1) (.slice vo N vc) l) (fun _ s4 _=>n - (intOf s4).toNat)
 case atStart=>exact ⟨0,[],some ⟨w.heap.size+1,0,none⟩,0,0,by omega,rfl,rfl,rfl,⟨by simp,by simp⟩,C0.out⟩
 case round=>
  clear C0;obtain ⟨i,l,vo,vc,N,hi,rfl,rfl,hL0,hl0,hC0⟩:=hrel;have CC:=hm_ hC0;have HL:Hid (N=l.length):=hL0;have HQ:=hm_ hl0
  have hN:N<=1048576:=by
   have h1:=HL.out;have h2:=HQ.out.2;omega
  have d0:=hC0.c0;have d1:=hC0.c1;clear hC0 hL0 hl0;have kk:(0:Int)<=(i:Int):=by omega
  by_cases hlt:i < n
  ·have hlt':(i:Int) < (n:Int):=by omega
   have his:i < ss.length:=by have:=HN.out; omega
   rcases RA.out with h' | ⟨b,off,rfl,h2⟩
   ·rw [h'] at his; simp at his
   obtain ⟨s,hs⟩:∃ s,s=ss[i]:=⟨_,rfl⟩;have HS:Hid (s=ss[i]):=hs;have hsz:s.size<=1048576:=by rw [hs]; exact HW.out _ (List.getElem_mem his)
   have x0:=za_ CC.out.below (h2 i his) (zs_ (h2 i his));rw [<- hs] at x0;clear h2 hs;go_wp2_with fail;refine (uJ_ s _ (by omega)).mono ?_;rintro e w1 ⟨t,r,rfl,hb,h0,h1⟩;have C1:=hm_ (CC.out.next hb);have H0:=hm_ h0;have H1:=hm_ h1;have e0:=C1.out.c0;have e1:=C1.out.c1;clear hb h0 h1 CC x0 d0 d1;cases r with
   | false=>
    have HR:Hid (l=recL ss):=by
     have h1:=HQ.out.1;rw [uX_ his (by rw [<- HS.out]; exact H0.out rfl),List.append_nil] at h1;exact h1
    go_wp2;go_ret;obtain rfl:=HR.out;obtain rfl:=HL.out;exact ⟨vo,vc,rfl,C1.out.below,C1.out.own.weak (by omega)⟩
   | true=>
    have HR:Hid ((l++[t])++recL (ss.drop (i+1))=recL ss∧(l++[t]).length<=i+1):=⟨by
     have h1:=HQ.out.1;rw [uV_ his (by rw [<- HS.out]; exact H1.out rfl)] at h1;rw [List.append_assoc]
     exact h1,by have:=HQ.out.2; simp; omega⟩
    have CA:Hid (RI w (w1.alloc (.cells #[.string t] 9)) (.slice (some ⟨b,off,none⟩) n c0) (.slice bo us.length c1) (.slice vo N vc) l):=C1.out.next (zb_ _ _);go_wp2_with (at_builtin; refine xk_ rfl (.tmp 27) (.tmp 29) rfl rfl (.slice vo N vc) N l (w.heap.size+1) (N+1) rfl HL.out CA.out.own CA.out.size (some ⟨w1.heap.size,0,none⟩) 1 1 [t] rfl rfl y1_ (by omega) rfl ?_; intro vo3 vc3 w3 hO hg; have C3:Hid _:=CA.out.app hO hg; clear hO hg)
    go_roundw
    case rel=>exact ⟨i+1,l++[t],vo3,vc3,N+1,by omega,by go_num,rfl,by have:=HL.out; simp; omega,HR.out,C3.out⟩
    case measure=>simp [intOf]; omega
  ·have hlt':¬ (i:Int) < (n:Int):=by omega
   have HR:Hid (l=recL ss):=by
    have h1:=HQ.out.1;rw [List.drop_of_length_le (by have:=HN.out; omega)] at h1;show l=recL ss
    simpa [recL] using h1
   go_wp2;go_ret;obtain rfl:=HR.out;obtain rfl:=HL.out;exact ⟨vo,vc,rfl,CC.out.below,CC.out.own.weak (by omega)⟩
theorem qG_:∀ (n:Nat) (c:UInt8),c ∈ dsN n->c≠58:=by
 intro n
 induction n using Nat.strongRecOn with
 | _ n ih=>
  intro c hc;rw [dsN] at hc;by_cases h:n < 10
  ·rw [dif_pos h,List.mem_singleton] at hc;subst hc;intro e
   have:=(c58 _).1 e
   rw [yE_ _ (by omega)] at this;omega
  ·rw [dif_neg h,List.mem_append,List.mem_singleton] at hc;rcases hc with hc | hc
   ·exact ih (n / 10) (by omega) c hc
   ·subst hc;intro e
    have:=(c58 _).1 e
    rw [yE_ _ (by omega)] at this;omega
theorem s2_:∀ (a r:List UInt8),(∀ c ∈ a,c≠58)->aft (a++58 :: r)=some r:=by
 intro a r
 induction a with
 | nil=>intro _; simp [aft]
 | cons x a ih=>
  intro h;show (if x=58 then some (a++58 :: r) else aft (a++58 :: r))=some r
  rw [if_neg (h x (by simp)),ih (fun c hc=>h c (by simp [hc]))]
theorem s9_ (t:ByteArray):(zq_ t).data.toList=dsN t.size++58 :: (dsN (yu_ t t.size)++58 :: t.data.toList):=by
 unfold zq_;simp
theorem r6_ (t:ByteArray):y8_ (zq_ t)=some t:=by
 unfold y8_ opn;rw [s9_,s2_ _ _ (qG_ _)];show ((aft (dsN (yu_ t t.size)++58 :: t.data.toList)).bind _)=_
 rw [s2_ _ _ (qG_ _)];show (if zq_ ⟨t.data.toList.toArray⟩=zq_ t then some (⟨t.data.toList.toArray⟩:ByteArray) else none)=some t
 have e:(⟨t.data.toList.toArray⟩:ByteArray)=t:=by cases t; simp
 rw [e,if_pos rfl]
theorem uW_ (ts:List ByteArray):recL (ts.map zq_)=ts:=by
 induction ts with
 | nil=>rfl
 | cons t ts ih=>
  rw [List.map_cons];unfold recL;rw [r6_,ih]
theorem tX_ (n:Int) (w:World) (h1:0<=n) (h2:n<=2):Calls Tryz.prog 117 #[.int .i64 n] w fun e w'=>e=.returned (.bool true)∧w'=w:=by
 have CI:Hid (Calls Tryz.prog 48 #[.int .i64 n,.int .i64 0,.int .i64 2] w fun e w'=>e=.returned (.bool true)∧w'=w):=wj_ n 0 2 w h1 h2;go_enter Tryz.func117,Tryz.ntmps117;go_wp2_with (first | (go_at_call 48; refine CI.out.mono ?_; rintro e w1 ⟨rfl,rfl⟩));go_ret;exact ⟨rfl,rfl⟩
def zy_ (rs:List (Bool × Cl)):List ByteArray:=rs.map fun r=>recT r.1 r.2
def RplC (j:Int) (rs:List (Bool × Cl)):Prop:=∀ (W:World) (p:Option Addr) (c:Nat),TRow W p (zy_ rs)->(zy_ rs).length<=c ->
 Calls Tryz.prog 121 #[.int .i64 j,.slice p (zy_ rs).length c] W fun e w'=>∃ u:No,e=.returned (.tuple #[nV u,.bool true])∧NoR W.heap.size w' u∧u.x=mkN j rs∧Below W.heap.size W w'
theorem vz_ (lo:Nat) (o:No) (rs:List (Bool × Cl)) (w:World) (hx:o.x=mkN o.x.id rs) (h1:0<=o.x.id) (h2:o.x.id < 3) (hd:o.su++o.un=(zy_ rs).map zq_) (hn:rs.length<=300) (hz:∀ s ∈ o.su++o.un,s.size<=1048576) (hl:∀ m ∈ o.ms,m.c.l.length<=1000) (h0:NoR lo w o) (RC:RplC o.x.id rs) :
  Calls Tryz.prog 60 #[nV o] w fun e w'=>e=.returned (.bool true)∧Below w.heap.size w w':=by
 (try unfold nV);have hlen:o.su.length+o.un.length=rs.length:=by have:=congrArg List.length hd; simpa [zy_] using this
 have hml:o.ms.length<=rs.length∧o.x.fd.length<=rs.length:=by
  have e:=ul_ o.x.id rs;rw [<- hx,h0.cs] at e
  simpa using e
 have h:Hid (NoR lo w o):=h0;have HX:=hm_ hx;have X0:Hid (Box (w.alloc (.cells (nL o).toArray 29)) w.heap.size (nL o)∧Below w.heap.size w (w.alloc (.cells (nL o).toArray 29))):=⟨zn_,zb_ _ _⟩
 have CD:Hid (∀ W,Below w.heap.size w W->Calls Tryz.prog 118 #[.agg #[.slice o.p2 o.su.length o.c2,.slice o.p3 o.un.length o.c3]] W fun e w'=>e=.returned (.bool true)∧Below W.heap.size W w'):=fun W hW=>by
  refine (pQ_ _ _ o.su o.un W (by omega) (by omega) (h.out.next hW).row.1 (h.out.next hW).row.2).mono ?_;rintro e w' ⟨rfl,hb⟩;exact ⟨by rw [decide_eq_true (by omega)],hb⟩
 have CS:Hid (∀ W,Below w.heap.size w W->Calls Tryz.prog 120 #[.agg #[.slice o.p2 o.su.length o.c2,.slice o.p3 o.un.length o.c3]] W fun e w'=>∃ p0 c0 p1 c1,e=.returned (.agg #[.slice p0 (zy_ rs).length c0,.slice p1 0 c1])∧Below W.heap.size W w'∧RowV w' (.slice p0 (zy_ rs).length c0) ((zy_ rs).map zq_)∧RowV w' (.slice p1 0 c1) []):=fun W hW=>by
  refine (x5_ _ _ o.su o.un W (by omega) (by omega) (h.out.next hW).row.1 (h.out.next hW).row.2).mono ?_;rintro e w' ⟨p0,c0,p1,c1,rfl,hb,hO⟩;have hq:(zy_ rs).length=o.su.length+o.un.length:=by rw [hlen]; simp [zy_]
  obtain ⟨hA,hB⟩:=w6_ hO;obtain ⟨q0,d0,e0,hc0,hg0⟩:=yL_ hA;obtain ⟨q1,d1,e1,hc1,hg1⟩:=yL_ hB;refine ⟨p0,c0,p1,c1,by rw [hq],hb,?_,?_⟩
  ·rw [hq,e0,<- hd];exact ⟨q0,d0,by simp,by simpa using hc0,by simpa using hg0.txt⟩
  ·rw [e1];exact ⟨q1,d1,rfl,by simp,hg1.txt⟩
 have CR:Hid (∀ W v0 v1,RowV W v0 ((zy_ rs).map zq_)->RowV W v1 []->Calls Tryz.prog 119 #[.agg #[v0,v1]] W fun e w'=>∃ p c,e=.returned (.slice p (zy_ rs).length c)∧Below W.heap.size W w'∧TRow w' p (zy_ rs)∧(zy_ rs).length<=c):=fun W v0 v1 hr0 hr1=>by
  refine (vr_ v0 v1 _ [] W (by simp [zy_]; omega) (by simp) (by rw [<- hd]; exact hz) hr0 hr1).mono ?_;rintro e w' ⟨p,c,rfl,hb,hO⟩;rw [uW_] at hO ⊢;obtain ⟨q0,d0,e0,hc0,hg0⟩:=yL_ hO;cases e0;exact ⟨_,_,rfl,hb,hg0.txt,hc0⟩
 have CP:Hid (RplC o.x.id rs):=RC;have CE:Hid (∀ W u lo2,Below w.heap.size w W->NoR lo2 W u->u.x=mkN o.x.id rs->Calls Tryz.prog 122 #[nV o,nV u] W fun e w'=>e=.returned (.bool true)∧Below W.heap.size W w'):=fun W u lo2 hW hu hx=>rO_ lo lo2 o u W (by omega) (by omega) hl (by rw [hx]; exact HX.out.symm) (h.out.next hW) hu
 have hT:Hid ((zy_ rs).length=o.su.length+o.un.length):=by show _=_; rw [hlen]; simp [zy_]
 have HS:o.su.length+o.un.length<=300:=by omega
 clear hx hd hz hl h0 RC hlen hml hn;have h3:o.x.id<=2:=by omega
 go_enter Tryz.func60,Tryz.ntmps60;go_upto_region 1 with fail;generalize w.alloc (.cells (nL o).toArray 29)=W0 at *;obtain ⟨b0,b1,b2,b3,b4,b5,b6⟩:=X0.out.1.c7;have CN:Hid (Calls Tryz.prog 117 #[.int .i64 o.x.id] W0 fun e w'=>e=.returned (.bool true)∧w'=W0):=tX_ _ _ h1 h3;go_upto_region 3 with (first | (go_at_call 117; refine CN.out.mono ?_; rintro e W9 ⟨rfl,rfl⟩) | (go_at_call 118; refine (CD.out _ X0.out.2).mono ?_; rintro e W1 ⟨rfl,hb1⟩));have X1:Hid (Box W1 w.heap.size (nL o)∧Below w.heap.size w W1):=⟨X0.out.1.next hb1,X0.out.2.trans (hb1.mono X0.out.2.size)⟩;clear hb1 X0 CD b0 b1 b2 b3 b4 b5 b6;obtain ⟨b0,b1,b2,b3,b4,b5,b6⟩:=X1.out.1.c7;go_upto_region 4 with (first | (go_at_call 120; refine (CS.out _ X1.out.2).mono ?_; rintro e W2 ⟨p0,c0,p1,c1,rfl,hb2,hR0,hR1⟩) | (go_at_call 119; refine (CR.out W2 (.slice p0 (zy_ rs).length c0) (.slice p1 0 c1) hR0 hR1).mono ?_; rintro e W3 ⟨p,c,rfl,hb3,hT3,hc3⟩));have X3:Hid (Box W3 w.heap.size (nL o)∧Below w.heap.size w W3):=⟨(X1.out.1.next hb2).next hb3,(X1.out.2.trans (hb2.mono X1.out.2.size)).trans (hb3.mono (X1.out.2.trans (hb2.mono X1.out.2.size)).size)⟩;have T3:Hid (TRow W3 p (zy_ rs)∧(zy_ rs).length<=c):=⟨hT3,hc3⟩;clear hb2 hb3 hR0 hR1 hT3 hc3 X1 CS CR b0 b1 b2 b3 b4 b5 b6;obtain ⟨b0,b1,b2,b3,b4,b5,b6⟩:=X3.out.1.c7;go_upto_region 5 with (first | (go_at_call 121; refine (CP.out _ _ _ T3.out.1 T3.out.2).mono ?_; rintro e W4 ⟨u,rfl,hN4,hu,hb4⟩; have HU:Hid (u.x=mkN o.x.id rs):=hu; clear hu));have B4:Below w.heap.size w W4:=X3.out.2.trans (hb4.mono X3.out.2.size);have X4:Hid (Box (W4.alloc (.cells (nL u).toArray 29)) w.heap.size (nL o)∧Box (W4.alloc (.cells (nL u).toArray 29)) W4.heap.size (nL u)∧Below w.heap.size w (W4.alloc (.cells (nL u).toArray 29))∧NoR W3.heap.size (W4.alloc (.cells (nL u).toArray 29)) u):=⟨(X3.out.1.next hb4).alloc,zn_,B4.trans ((zb_ _ _).mono B4.size),hN4.next (zb_ _ _)⟩;clear hb4 hN4 B4 b0 b1 b2 b3 b4 b5 b6;generalize W4.alloc (.cells (nL u).toArray 29)=W5 at *;generalize W4.heap.size=g5 at *;obtain ⟨b0,b1,b2,b3,b4,b5,b6⟩:=X4.out.1.c7;obtain ⟨d0,d1,d2,d3,d4,d5,d6⟩:=X4.out.2.1.c7;have hT':=hT.out;have hT2:((zy_ rs).length:Int)=(o.su.length:Int)+(o.un.length:Int):=by omega
 rw [hT'];clear hT' hT2;have C5:Hid (Calls Tryz.prog 122 #[nV o,nV u] W5 fun e w'=>e=.returned (.bool true)∧Below W5.heap.size W5 w'):=CE.out W5 u W3.heap.size X4.out.2.2.1 X4.out.2.2.2 HU.out;go_wp2_with (first | (go_at_call 122; refine C5.out.mono ?_; rintro e W6 ⟨rfl,hb6⟩));go_ret;exact ⟨rfl,X4.out.2.2.1.trans (hb6.mono X4.out.2.2.1.size)⟩
section
variable {W W' w:World} {b g i k lo q:Nat} {p:Option Addr} {rs:List (Bool × Cl)} {v:Value}
theorem nL_ (rs:List (Bool × Cl)):∀ x:Nd,(rs.foldl nxt x).fd.length<=x.fd.length+rs.length:=by
 induction rs with
 | nil=>intro x; simp
 | cons r rs ih=>
  intro x;have h:=ih (nxt x r);have h2:(nxt x r).fd.length<=x.fd.length+1:=by unfold nxt; dsimp only; split <;> simp
  simp only [List.foldl_cons,List.length_cons];omega
theorem oU_ (id:Int) (rs:List (Bool × Cl)):(mkN id rs).fd.length<=rs.length:=by have:=nL_ rs (newN id); simpa [mkN,newN] using this
structure RY (w wr:World) (g:Nat) (j:Int) (rs:List (Bool × Cl)) (k:Nat) (u:No):Prop where
 z:Box wr w.heap.size [.int .i64 0,.int .i64 0,.int .i64 0,.slice none 0 0,.slice none 0 0,.slice none 0 0,.slice none 0 0]
 x:Box wr g [.int .i64 u.x.id,.int .i64 u.x.n,.int .i64 u.x.cut,.slice u.p0 u.ms.length u.c0,.slice u.p1 u.x.fd.length u.c1,.slice u.p2 u.su.length u.c2,.slice u.p3 u.un.length u.c3]
 r:NoR (g+1) wr u
 e:u.x=mkN j (rs.take k)
 s:u.su=[]∧u.un.length=k
 b:Below w.heap.size w wr
 l:w.heap.size < g
theorem RY.next {j:Int} {u:No} (h:RY w W g j rs k u) (hb:Below W.heap.size W W'):RY w W' g j rs k u:=
 ⟨h.z.next hb,h.x.next hb,h.r.next hb,h.e,h.s,h.b.trans (hb.mono h.b.size),h.l⟩
theorem RY.far {j:Int} {u:No} (h:RY w W g j rs k u) (hq:g < q) (hx:NoX u q):RY w (W.setCell ⟨q,i,none⟩ v) g j rs k u:=
 ⟨h.z.oth (by have:=h.l; omega),h.x.oth (by omega),h.r.oth hx,h.e,h.s,zt_ h.b (by have:=h.l; omega),h.l⟩
theorem ra_ {t:ByteArray} {u:No} (h:Box W g [.int .i64 u.x.id,.int .i64 u.x.n,.int .i64 u.x.cut,.slice u.p0 u.ms.length u.c0,.slice u.p1 u.x.fd.length u.c1,.slice u.p2 u.su.length u.c2,.slice u.p3 u.un.length u.c3]) (hc:W.cell? ⟨b,i,none⟩=some (.string t)):(W.cell? ⟨g,0,none⟩=some (.int .i64 u.x.id)∧W.cell? ⟨g,1,none⟩=some (.int .i64 u.x.n)∧W.cell? ⟨g,2,none⟩=some (.int .i64 u.x.cut)∧W.cell? ⟨g,3,none⟩=some (.slice u.p0 u.ms.length u.c0)∧W.cell? ⟨g,4,none⟩=some (.slice u.p1 u.x.fd.length u.c1)∧W.cell? ⟨g,5,none⟩=some (.slice u.p2 u.su.length u.c2)∧W.cell? ⟨g,6,none⟩=some (.slice u.p3 u.un.length u.c3))∧W.cell? ⟨b,i,none⟩=some (.string t):=⟨h.c7,hc⟩
theorem RY.ms {j:Int} {u:No} {r:Bool × Cl} (h:RY w W g j rs k u) (hF:Fol u.x r):u.ms.length < 100:=by
 have h1:=congrArg List.length h.r.cs;have h2:=hF.room;simp at h1;omega
theorem ox_ {v:No} {c:Nat} {ts:List ByteArray} (h:NoR lo W v) (hg:GRow lo W p (V ts)) (hc:ts.length<=c):NoR lo W { v with p3:=p,c3:=c,un:=ts }:=⟨h.cs,h.r0,h.r1,h.r2,hg,h.rs,h.le.1,h.le.2.1,h.le.2.2.1,hc⟩
theorem vG_ (j:Int) (rs:List (Bool × Cl)) (hj:j=0∨j=1∨j=2) (hG:Gds j rs) (hn:rs.length<=300):RplC j rs:=by
 intro w p c hT hc;have HT:=hm_ hT;have HJ:=hm_ hj;have HGD:Hid (Gds j rs):=hG;clear hT hj hG hc;have hl:(zy_ rs).length=rs.length:=by simp [zy_]
 rw [hl];clear hl;obtain ⟨n,hn'⟩:∃ n,n=rs.length:=⟨_,rfl⟩;rw [<- hn'] at hn ⊢;have HLN:Hid (n=rs.length):=hn';clear hn';have Z0:Hid (Box (w.alloc (.cells #[.int .i64 0,.int .i64 0,.int .i64 0,.slice none 0 0,.slice none 0 0,.slice none 0 0,.slice none 0 0] 29)) w.heap.size [.int .i64 0,.int .i64 0,.int .i64 0,.slice none 0 0,.slice none 0 0,.slice none 0 0,.slice none 0 0]∧Below w.heap.size w (w.alloc (.cells #[.int .i64 0,.int .i64 0,.int .i64 0,.slice none 0 0,.slice none 0 0,.slice none 0 0,.slice none 0 0] 29))):=⟨zn_,zb_ _ _⟩;go_enter Tryz.func121,Tryz.ntmps121;go_upto_region 1 with fail;generalize w.alloc (.cells #[.int .i64 0,.int .i64 0,.int .i64 0,.slice none 0 0,.slice none 0 0,.slice none 0 0,.slice none 0 0] 29)=W0 at *;go_upto_region 2 with (first | (go_at_call 125; refine (wO_ j _ 0).mono ?_; rintro e x0 ⟨u0,rfl,hN,hx,hs,hu,hb⟩; have HU0:Hid (NoR 0 x0 u0∧u0.x=newN j∧u0.su=[]∧u0.un=[]∧Below W0.heap.size W0 x0):=⟨hN,hx,hs,hu,hb⟩; clear hN hx hs hu hb))
 refine zH_ (fun W=>RY w W x0.heap.size j rs 0 u0) (by
  obtain ⟨hN,hx,hs,hu,hb⟩:=HU0.out;have hz:=Z0.out.1.next hb
  exact ⟨hz.next (zb_ _ _),zn_,ug_ hN hx hs hu,by rw [hx]; simp [mkN],⟨hs,by rw [hu]; rfl⟩,(Z0.out.2.trans (hb.mono Z0.out.2.size)).trans ((zb_ _ _).mono (Z0.out.2.trans (hb.mono Z0.out.2.size)).size),hz.lt⟩) (fun W2 hq=>?_)
 clear HU0 Z0;generalize x0.heap.size=g at *;have QS:=hm_ hq;clear hq;go_wp2;go_loopw [7] (fun s7 wr=>∃ (k:Nat) (u:No),k<=n∧s7=.int .i64 k∧RY w wr g j rs k u) (fun s7 _=>n - (intOf s7).toNat)
 case atStart=>exact ⟨0,u0,by omega,rfl,QS.out⟩
 case round=>
  obtain ⟨k,u,hkn,rfl,hq⟩:=hrel;have Q0:=hm_ hq;clear hq QS;have hk0:(0:Int)<=(k:Int):=by omega
  by_cases hlt:k < n
  ·have hlt':(k:Int) < (n:Int):=by omega
   have hkr:k < rs.length:=by have:=HLN.out; omega
   obtain ⟨pb,C,hr⟩:∃ pb C,rs[k]=(pb,C):=⟨_,_,rfl⟩;have FO:Hid (Fol u.x (pb,C)):=by rw [Q0.out.e,<- hr]; exact HGD.out k hkr
   have HR:=hm_ hr;rcases HT.out with h' | ⟨b,off,rfl,hcl⟩
   ·rw [zy_,List.map_eq_nil_iff] at h';rw [h'] at hkr;simp at hkr
   have CE:Hid (∀ W,Below w.heap.size w W->W.cell? ⟨b,off+k,none⟩=some (.string (recT pb C))):=fun W hB=>by
    have h1:=hcl k (by simpa [zy_] using hkr);have h2:(zy_ rs)[k]'(by simpa [zy_] using hkr)=recT pb C:=by simp [zy_,HR.out]
    rw [h2] at h1;exact za_ hB h1 (zh_ h1)
   clear hcl HT hr
   have CR:Hid (∀ W,RY w W g j rs k u->Calls Tryz.prog 160 #[.agg #[.int .i64 u.x.id,.int .i64 u.x.n,.int .i64 u.x.cut,.slice u.p0 u.ms.length u.c0,.slice u.p1 u.x.fd.length u.c1,.slice u.p2 u.su.length u.c2,.slice u.p3 u.un.length u.c3],.string (recT pb C)] W (RecP (g+1) W u (pb,C))):=fun W h=>
    tM_ (g+1) u pb C W h.x.lt (h.ms FO.out) (by have h1:=oU_ j (rs.take k); rw [<- h.e] at h1; simp at h1; omega) (by rw [h.e,(sE_ _ _).1]; exact HJ.out) FO.out h.r
   go_upto_region 5 with fail
   go_cut [8,9] from 18 to 26 (fun s8 s9 wc=>∃ (g8:Nat) (v:No),s8=.pointer (some ⟨g8,0,none⟩)∧s9=.bool true∧RY w wc g j rs k u∧Box wc g8 [.int .i64 v.x.id,.int .i64 v.x.n,.int .i64 v.x.cut,.slice v.p0 v.ms.length v.c0,.slice v.p1 v.x.fd.length v.c1,.slice v.p2 v.su.length v.c2,.slice v.p3 v.un.length v.c3]∧(NoR (g+1) wc v∧v.x=nxt u.x (pb,C)∧v.su=[]∧v.un.length=k)∧(NoX v g8∧NoX u g8)∧g < g8)
   case first=>
    refine wp_region_held_drew (S:=(fun w'=>(w'.cell? ⟨g,0,none⟩=some (.int .i64 u.x.id)∧w'.cell? ⟨g,1,none⟩=some (.int .i64 u.x.n)∧w'.cell? ⟨g,2,none⟩=some (.int .i64 u.x.cut)∧w'.cell? ⟨g,3,none⟩=some (.slice u.p0 u.ms.length u.c0)∧w'.cell? ⟨g,4,none⟩=some (.slice u.p1 u.x.fd.length u.c1)∧w'.cell? ⟨g,5,none⟩=some (.slice u.p2 u.su.length u.c2)∧w'.cell? ⟨g,6,none⟩=some (.slice u.p3 u.un.length u.c3))∧w'.cell? ⟨b,off+k,none⟩=some (.string (recT pb C)))) (by kernel_rfl) ?_ (fun hH=>?_)
    ·(try dsimp only);exact ra_ (Q0.out.next (zd_ _)).x (CE.out _ (Q0.out.next (zd_ _)).b)
    have QC:Hid (RY w wr.drew g j rs k u):=Q0.out.next (zd_ wr);refine wTk 0 ?_;refine wTk 1 ?_;refine wTk 2 ?_;refine wTk 3 ?_;refine wTk 4 ?_;generalize wr.drew=wd at *;refine wpAnyH_ready (rs:=[5,9]) (by kernel_rfl) (by simp) ?_;refine .cons rfl (fun K hK=>?_) (.cons rfl (fun K hK=>?_) .nil)
    focus
     refine wLy ?_;go_simp;go_at_call 160;refine (CR.out _ QC.out).mono ?_;rintro e x0 ⟨v,rfl,hN,hx,hs,hu,hX,hb⟩;(try simp only []);have HV:Hid (NoR (g+1) x0 v∧v.x=nxt u.x (pb,C)∧v.su=[]∧v.un.length=k):=⟨hN,hx,hs.trans QC.out.s.1,by rw [hu]; exact QC.out.s.2⟩;replace QC:Hid _:=QC.out.next hb;clear hN hx hs hu hX hb;refine wHk hK (ra_ QC.out.x (CE.out _ QC.out.b)) ?_;clear hK K hH;intro hH;refine wTk 6 ?_;refine wTk 7 ?_;refine wTk 8 ?_;refine wRd 9 (fun K hK=>?_);go_simp;(try simp only []);have B8:Hid (Box (x0.alloc (.cells #[.int .i64 0,.int .i64 0,.int .i64 0,.slice none 0 0,.slice none 0 0,.slice none 0 0,.slice none 0 0] 29)) x0.heap.size [.int .i64 0,.int .i64 0,.int .i64 0,.slice none 0 0,.slice none 0 0,.slice none 0 0,.slice none 0 0]):=zn_;have G8:Hid (g < x0.heap.size):=QC.out.x.lt;have NK:Hid (NoX u x0.heap.size):=zU_ QC.out.r (Nat.le_refl _);have NX:Hid (NoX v x0.heap.size):=zU_ HV.out.1 (Nat.le_refl _);replace HV:Hid (NoR (g+1) (x0.alloc (.cells #[.int .i64 0,.int .i64 0,.int .i64 0,.slice none 0 0,.slice none 0 0,.slice none 0 0,.slice none 0 0] 29)) v∧v.x=nxt u.x (pb,C)∧v.su=[]∧v.un.length=k):=⟨HV.out.1.next (zb_ _ _),HV.out.2⟩;replace QC:Hid _:=QC.out.next (zb_ x0 (.cells #[.int .i64 0,.int .i64 0,.int .i64 0,.slice none 0 0,.slice none 0 0,.slice none 0 0,.slice none 0 0] 29));refine wHk hK (ra_ QC.out.x (CE.out _ QC.out.b)) ?_;clear hK K hH;intro hH;generalize x0.alloc (.cells #[.int .i64 0,.int .i64 0,.int .i64 0,.slice none 0 0,.slice none 0 0,.slice none 0 0,.slice none 0 0] 29)=x1 at *;generalize x0.heap.size=g8 at *
    rotate_left
    focus
     refine wLy ?_;go_simp;(try simp only []);have B8:Hid (Box (wd.alloc (.cells #[.int .i64 0,.int .i64 0,.int .i64 0,.slice none 0 0,.slice none 0 0,.slice none 0 0,.slice none 0 0] 29)) wd.heap.size [.int .i64 0,.int .i64 0,.int .i64 0,.slice none 0 0,.slice none 0 0,.slice none 0 0,.slice none 0 0]):=zn_;have G8:Hid (g < wd.heap.size):=QC.out.x.lt;have NK:Hid (NoX u wd.heap.size):=zU_ QC.out.r (Nat.le_refl _);replace QC:Hid _:=QC.out.next (zb_ wd (.cells #[.int .i64 0,.int .i64 0,.int .i64 0,.slice none 0 0,.slice none 0 0,.slice none 0 0,.slice none 0 0] 29));refine wHk hK (ra_ QC.out.x (CE.out _ QC.out.b)) ?_;clear hK K hH;intro hH;generalize wd.alloc (.cells #[.int .i64 0,.int .i64 0,.int .i64 0,.slice none 0 0,.slice none 0 0,.slice none 0 0,.slice none 0 0] 29)=x0 at *;generalize wd.heap.size=g8 at *;refine wRd 5 (fun K hK=>?_);go_simp;go_at_call 160;refine (CR.out _ QC.out).mono ?_;rintro e x1 ⟨v,rfl,hN,hx,hs,hu,hX,hb⟩;(try simp only []);have HV:Hid (NoR (g+1) x1 v∧v.x=nxt u.x (pb,C)∧v.su=[]∧v.un.length=k):=⟨hN,hx,hs.trans QC.out.s.1,by rw [hu]; exact QC.out.s.2⟩;have NX:Hid (NoX v g8):=hX g8 B8.out.lt NK.out;replace B8:Hid _:=B8.out.next hb;replace QC:Hid _:=QC.out.next hb;clear hN hx hs hu hX hb;refine wHk hK (ra_ QC.out.x (CE.out _ QC.out.b)) ?_;clear hK K hH;intro hH;refine wTk 6 ?_;refine wTk 7 ?_;refine wTk 8 ?_
    rotate_left
    all_goals
     obtain ⟨a0,a1,a2,a3,a4,a5,a6⟩:=B8.out.c7;obtain ⟨f0,f1,f2,f3,f4,f5,f6⟩:=B8.out.f7;have hg8:g < g8:=G8.out;have QD:Hid (RY w ((o7 x1 g8 v)) g j rs k u):=(((((((QC.out.far hg8 NK.out).far hg8 NK.out).far hg8 NK.out).far hg8 NK.out).far hg8 NK.out).far hg8 NK.out).far hg8 NK.out);have BX:Hid (Box ((o7 x1 g8 v)) g8 [.int .i64 v.x.id,.int .i64 v.x.n,.int .i64 v.x.cut,.slice v.p0 v.ms.length v.c0,.slice v.p1 v.x.fd.length v.c1,.slice v.p2 v.su.length v.c2,.slice v.p3 v.un.length v.c3]):=B8.out.s7;have HW:Hid (NoR (g+1) ((o7 x1 g8 v)) v):=(((((((HV.out.1.oth NX.out).oth NX.out).oth NX.out).oth NX.out).oth NX.out).oth NX.out).oth NX.out);refine wRd 10 (fun K hK=>?_);go_simp;(try simp only []);refine wHk hK (ra_ QD.out.x (CE.out _ QD.out.b)) ?_;clear hK K hH;intro hH;refine wTk 11 ?_;refine wDn ?_;clear hH a0 a1 a2 a3 a4 a5 a6 f0 f1 f2 f3 f4 f5 f6;go_wp2_with fail;go_meet
     case rel=>exact ⟨g8,v,rfl,rfl,QD.out,BX.out,⟨HW.out,HV.out.2⟩,⟨NX.out,NK.out⟩,hg8⟩
   case rest=>
    obtain ⟨g8,v,rfl,rfl,hq1,hb1,hv1,hnx1,hg8⟩:=hcut;generalize wc=W1 at *;have Q1:=hm_ hq1;have B1:=hm_ hb1;have H1:=hm_ hv1;have NX1:=hm_ hnx1;have HG8:Hid (g < g8):=hg8;clear hq1 hb1 hv1 hnx1 hg8 Q0 CR
    have CA:Hid (∀ W,NoR (g+1) W v->Calls Tryz.prog 82 #[.agg #[.slice v.p2 v.su.length v.c2,.slice v.p3 v.un.length v.c3],.string (recT pb C)] W fun e w'=>∃ p9 c9,e=.returned (.agg #[.slice v.p2 v.su.length v.c2,.slice p9 (v.un.length+1) c9])∧Below W.heap.size W w'∧GRow W.heap.size w' p9 (V (v.un++[zq_ (recT pb C)]))∧(v.un++[zq_ (recT pb C)]).length<=c9):=fun W h=>by
     have e1:=H1.out.2.2.1;have e2:=H1.out.2.2.2;refine (xs_ (.slice v.p2 v.su.length v.c2) (.slice v.p3 v.un.length v.c3) v.su v.un (recT pb C) W (yn_ pb C FO.out.key.2.1 FO.out.ok) (by rw [e1]; simp) (by omega) h.row.1 h.row.2).mono ?_;rintro e w' ⟨p,c,rfl,hb,_,hO⟩;obtain ⟨q,d,he,hd,hg⟩:=yL_ hO;have E:q=p∧d=c:=by simp at he; exact ⟨he.1.symm,he.2.symm⟩
     obtain ⟨rfl,rfl⟩:=E;exact ⟨q,d,rfl,hb,hg,hd⟩
    go_upto_region 8 with fail
    go_cut [9] from 31 to 38 (fun s9 wc=>s9=.bool true∧∃ (p9:Option Addr) (c9:Nat),RY w wc g j rs k u∧Box wc g8 [.int .i64 v.x.id,.int .i64 v.x.n,.int .i64 v.x.cut,.slice v.p0 v.ms.length v.c0,.slice v.p1 v.x.fd.length v.c1,.slice v.p2 v.su.length v.c2,.slice p9 (v.un.length+1) c9]∧NoR (g+1) wc { v with p3:=p9,c3:=c9,un:=(v.un++[zq_ (recT pb C)]) })
    case first=>
     refine wp_region_held_drew (S:=(fun w'=>w'.cell? ⟨b,off+k,none⟩=some (.string (recT pb C)))) (by kernel_rfl) ?_ (fun hH=>?_)
     ·(try dsimp only);exact CE.out _ (Q1.out.next (zd_ _)).b
     have QC:Hid (RY w W1.drew g j rs k u):=Q1.out.next (zd_ W1);have BC:=hm_ (B1.out.next (zd_ _));have HC:=hm_ (H1.out.1.next (zd_ _));refine wTk 0 ?_;refine wTk 2 ?_;refine wTk 3 ?_;refine wTk 4 ?_;refine wTk 5 ?_;generalize W1.drew=wd at *;refine wpAnyH_ready (rs:=[1]) (by kernel_rfl) (by simp) ?_;refine .cons rfl (fun K hK=>?_) .nil;obtain ⟨b0,b1,b2,b3,b4,b5,b6⟩:=BC.out.c7;refine wLy ?_;go_simp;(try simp only []);refine wHk hK (CE.out _ QC.out.b) ?_;clear hK K hH;intro hH;clear b0 b1 b2 b3 b4 b5 b6;refine wRd 6 (fun K hK=>?_);go_simp;go_at_call 82;refine (CA.out _ HC.out).mono ?_;rintro e x0 ⟨p9,c9,rfl,hb,hg9,hc9⟩;(try simp only []);have NE9:Hid (∀ x,p9=some x->V (v.un++[zq_ (recT pb C)])≠[]->x.block≠g8):=yO_ hg9 BC.out.lt;have HG9:Hid (GRow (g+1) x0 p9 (V (v.un++[zq_ (recT pb C)]))∧(v.un++[zq_ (recT pb C)]).length<=c9):=⟨hg9.weak QC.out.x.lt,hc9⟩;replace QC:Hid _:=QC.out.next hb;replace BC:Hid _:=BC.out.next hb;replace HC:Hid _:=HC.out.next hb;clear hb hg9 hc9;refine wHk hK (CE.out _ QC.out.b) ?_;clear hK K hH;intro hH;refine wTk 7 ?_;obtain ⟨a0,a1,a2,a3,a4,a5,a6⟩:=BC.out.c7;obtain ⟨f0,f1,f2,f3,f4,f5,f6⟩:=BC.out.f7;have hg8:=HG8.out;have QD:Hid (RY w ((x0.setCell ⟨g8,5,none⟩ (.slice v.p2 v.su.length v.c2)).setCell ⟨g8,6,none⟩ (.slice p9 (v.un.length+1) c9)) g j rs k u):=(QC.out.far hg8 NX1.out.2).far hg8 NX1.out.2
     have BX:Hid (Box ((x0.setCell ⟨g8,5,none⟩ (.slice v.p2 v.su.length v.c2)).setCell ⟨g8,6,none⟩ (.slice p9 (v.un.length+1) c9)) g8 [.int .i64 v.x.id,.int .i64 v.x.n,.int .i64 v.x.cut,.slice v.p0 v.ms.length v.c0,.slice v.p1 v.x.fd.length v.c1,.slice v.p2 v.su.length v.c2,.slice p9 (v.un.length+1) c9]):=by
      have:=(BC.out.set (i:=5) (u:=.slice v.p2 v.su.length v.c2) (by simp)).set (i:=6) (u:=.slice p9 (v.un.length+1) c9) (by simp)
      show Box _ _ _
      simpa using this
     have HW:Hid (NoR (g+1) ((x0.setCell ⟨g8,5,none⟩ (.slice v.p2 v.su.length v.c2)).setCell ⟨g8,6,none⟩ (.slice p9 (v.un.length+1) c9)) { v with p3:=p9,c3:=c9,un:=(v.un++[zq_ (recT pb C)]) }):=ox_ ((HC.out.oth NX1.out.1).oth NX1.out.1) ((HG9.out.1.oth NE9.out).oth NE9.out) HG9.out.2;refine wRd 8 (fun K hK=>?_);go_simp;(try simp only []);refine wHk hK (CE.out _ QD.out.b) ?_;clear hK K hH;intro hH;refine wDn ?_;clear hH a0 a1 a2 a3 a4 a5 a6 f0 f1 f2 f3 f4 f5 f6;go_wp2_with fail;go_meet
     case rel=>exact ⟨rfl,p9,c9,QD.out,BX.out,HW.out⟩
    case rest=>
     obtain ⟨rfl,p9,c9,hq2,hb2,hv2⟩:=hcut;generalize wc=W2 at *;have Q2:=hm_ hq2;have B2:=hm_ hb2;have H2:=hm_ hv2;clear hq2 hb2 hv2 Q1 B1 CA;obtain ⟨b0,b1,b2,b3,b4,b5,b6⟩:=B2.out.c7;obtain ⟨a0,a1,a2,a3,a4,a5,a6⟩:=Q2.out.x.c7;obtain ⟨f0,f1,f2,f3,f4,f5,f6⟩:=Q2.out.x.f7;have hgl:=Q2.out.l;go_wp2
     go_roundw
     case rel=>
      refine ⟨k+1,{ v with p3:=p9,c3:=c9,un:=(v.un++[zq_ (recT pb C)]) },by omega,by go_num,⟨?_,?_,?_,?_,?_,?_,hgl⟩⟩
      ·exact Q2.out.z.o7 (by omega)
      ·have:=Q2.out.x.s7 (u0:=.int .i64 v.x.id) (u1:=.int .i64 v.x.n) (u2:=.int .i64 v.x.cut) (u3:=.slice v.p0 v.ms.length v.c0) (u4:=.slice v.p1 v.x.fd.length v.c1) (u5:=.slice v.p2 v.su.length v.c2) (u6:=.slice p9 (v.un.length+1) c9)
       simpa using this
      ·exact ((((((H2.out.keep (zc_ (by omega))).keep (zc_ (by omega))).keep (zc_ (by omega))).keep (zc_ (by omega))).keep (zc_ (by omega))).keep (zc_ (by omega))).keep (zc_ (by omega))
      ·rw [wP_ _ _ _ hkr,HR.out,<- Q2.out.e];exact H1.out.2.1
      ·exact ⟨H1.out.2.2.1,by simp [H1.out.2.2.2]⟩
      ·exact yq_ Q2.out.b (by omega)
     case measure=>simp [intOf]; omega
  ·obtain rfl:k=n:=by omega
   have hnl:¬ (k:Int) < (k:Int):=by omega
   have CS:Hid (∀ W,NoR (g+1) W u->Calls Tryz.prog 120 #[.agg #[.slice u.p2 u.su.length u.c2,.slice u.p3 u.un.length u.c3]] W _):=fun W h=>x5_ (.slice u.p2 u.su.length u.c2) (.slice u.p3 u.un.length u.c3) u.su u.un W (by rw [Q0.out.s.1]; simp) (by rw [Q0.out.s.2]; omega) h.row.1 h.row.2
   obtain ⟨b0,b1,b2,b3,b4,b5,b6⟩:=Q0.out.x.c7;go_upto_region 11 with (first | (go_at_call 120; refine (CS.out _ Q0.out.r).mono ?_; rintro e w1 ⟨p0,c0,p1,c1,rfl,hb1,hO1⟩; obtain ⟨b0,b1,b2,b3,b4,b5,b6⟩:=(Q0.out.x.next hb1).c7; obtain ⟨f0,f1,f2,f3,f4,f5,f6⟩:=(Q0.out.x.next hb1).f7));obtain ⟨a0,a1,a2,a3,a4,a5,a6⟩:=(Q0.out.z.next hb1).c7;obtain ⟨h0,h1,h2,h3,h4,h5,h6⟩:=(Q0.out.z.next hb1).f7;have hgl:=Q0.out.l;have HQ1:=hm_ (Q0.out.next hb1);have e2:=w6_ hO1;obtain ⟨q0,d0,e0,hc0,hg0⟩:=yL_ (ss:=u.su++u.un) ⟨by simpa using e2.1.own,e2.1.ge⟩;have E0:q0=p0∧d0=c0:=by simp at e0; exact ⟨e0.1.symm,e0.2.symm⟩
   obtain ⟨rfl,rfl⟩:=E0;have HG:Hid (GRow (g+1) w1 q0 (V (u.su++u.un))∧(u.su++u.un).length<=d0):=⟨hg0.weak Q0.out.x.lt,hc0⟩;clear hO1 e2 e0 hc0 hg0 hb1 Q0 CS;go_wp2;refine bodyPost_ret (v:=.tuple #[.agg #[.int .i64 u.x.id,.int .i64 u.x.n,.int .i64 u.x.cut,.slice u.p0 u.ms.length u.c0,.slice u.p1 u.x.fd.length u.c1,.slice q0 (u.su.length+u.un.length) d0,.slice p1 0 c1],.bool true]) (by simp [results,Tryz.results121,go_sem, *]) rfl ?_;have hle:=HQ1.out.r.le;have hrs:rs.take k=rs:=List.take_of_length_le (by have:=HLN.out; omega);have hx:=HQ1.out.e;rw [hrs] at hx;have N1:NoR (g+1) w1 ⟨u.x,u.ms,u.p0,u.c0,u.p1,u.c1,q0,d0,p1,c1,u.su++u.un,[]⟩:=⟨HQ1.out.r.cs,HQ1.out.r.r0,HQ1.out.r.r1,HG.out.1,.inl rfl,HQ1.out.r.rs,hle.1,hle.2.1,HG.out.2,Nat.zero_le _⟩;refine ⟨⟨u.x,u.ms,u.p0,u.c0,u.p1,u.c1,q0,d0,p1,c1,u.su++u.un,[]⟩,by simp,?_,hx,?_⟩
   ·refine NoR.weak (lo:=g+1) ?_ (by omega);exact ((((((((N1.keep (zc_ (by omega))).keep (zc_ (by omega))).keep (zc_ (by omega))).keep (zc_ (by omega))).keep (zc_ (by omega))).keep (zc_ (by omega))).keep (zc_ (by omega))).keep (zc_ (by omega))).keep (zc_ (by omega))
   ·exact yq_ (zt_ (zt_ HQ1.out.b (by omega)) (by omega)) (by omega)
end
end Go.Proofs.YtijcjhcgpmnchaaGreatDoor
