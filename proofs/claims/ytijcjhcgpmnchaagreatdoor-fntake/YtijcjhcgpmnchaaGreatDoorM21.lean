/- Nodes, part 21 of the law FnTake. -/
import Derived.Test.YtijcjhcgpmnchaaGreatDoorM20
import Derived.Deep.AppendSrc
import Derived.Deep.Upon
namespace Go.Proofs.YtijcjhcgpmnchaaGreatDoor
open Go.RowKit
set_option maxRecDepth 100000
set_option maxHeartbeats 16000000
set_option linter.unusedSimpArgs false
set_option linter.unusedVariables false
section
variable {W W' w w':World} {b e lo n off:Nat} {ss:List ByteArray} {u u' v v':Value} {xs:List Value}
theorem pc_ {ls:List ByteArray} (h2:∀ i (h:i < ls.length),W.cell? ⟨b,off+i,none⟩=some (.string ls[i])):∀ j v,(V ls)[j]? = some v->W.cell? ((⟨b,off,none⟩:Addr).add j)=some v:=fun j v hv=>by
 have hj:j < ls.length:=by
  rcases Nat.lt_or_ge j ls.length with q | q
  ·exact q
  ·rw [List.getElem?_eq_none (by rw [q5_]; exact q)] at hv; cases hv
 rw [V_at ls j hj] at hv;cases hv
 have:((⟨b,off,none⟩:Addr).add j)=⟨b,off+j,none⟩:=by
  unfold Addr.add;by_cases hk:j=0 <;> simp [hk]
 rw [this];exact h2 j hj
structure OwnT (W:World) (v:Value) (ss:List ByteArray) (lo:Nat):Prop where
 own:W.ownsRow 0 9 1 v ss.length (V ss)
 ge:∀ k,v.ownBlock=some k->lo<=k
theorem OwnT.lt (h:OwnT W v ss lo):∀ k,v.ownBlock=some k->lo<=k∧k < W.heap.size:=fun k hk=>⟨h.ge k hk,(h.own.lt k hk).2⟩
theorem OwnT.next (h:OwnT W v ss lo) (hb:Below W.heap.size W W'):OwnT W' v ss lo:=⟨zP_ h.own hb,h.ge⟩
theorem ot_ (h:w.ownsRow 0 e 1 v n xs) (hg:Gro w w' u u') (hne:∀ k,v.ownBlock=some k->u.ownBlock≠some k):w'.ownsRow 0 e 1 v n xs:=by
 refine ⟨h.1,?_⟩;rcases h.2 with h' | ⟨g,cap,cur,rfl,hg',hh,r⟩
 ·exact .inl h'
 ·refine .inr ⟨g,cap,cur,rfl,hg',?_,r⟩
  rw [hg.grown.block g (by
   rcases Nat.lt_or_ge g w.heap.size with h' | h'
   ·exact h'
   ·rw [Array.getElem?_eq_none h'] at hh; cases hh) (fun e=>hne g rfl e.symm)]
  exact hh
theorem OwnT.new (h:lo<=W.heap.size):OwnT (W.alloc (.cells #[] 9)) (.slice (some ⟨W.heap.size,0,none⟩) 0 0) [] lo:=
 ⟨World.ownsRow_lit (base:=0) (e:=9) (size:=1) W #[] 0 (Nat.zero_le _) (by unfold maxLen; omega) (by simp),fun k hk=>by simp [Value.ownBlock] at hk; omega⟩
theorem rf_ (h:W.ownsRow 0 e 1 v n xs):∃ ao cap,v=.slice ao n cap:=by
 rcases h.2 with ⟨rfl,hn⟩ | ⟨g,cap',cur,rfl,_⟩
 ·exact ⟨none,0,by rw [hn]⟩
 ·exact ⟨_,_,rfl⟩
theorem po_ (W:World) (v:Value) (n:Nat) (ss:List ByteArray) (lo tt:Nat) (hn:n=ss.length) (hO:OwnT W v ss lo) (hlo:lo<=W.heap.size) (ao:Option Addr) (m c:Nat) (ms:List ByteArray) (hm:m=ms.length) (hsrc:TRow W ao ms) (h20:n+m<=4194304) (htt:tt=n+m) :
  ∃ vo vc w',(Builtin.append_ #[25,25] 25 #[v,.slice ao m c]).run Tryz.prog W=.ok (.slice vo tt vc) w'∧OwnT w' (.slice vo tt vc) (ss++ms) lo∧Gro W w' v (.slice vo tt vc):=by
 subst htt;subst hn;subst hm;obtain ⟨i0,hi,hz0,hz1,hz2⟩:=info_parts xW_;have hml:ss.length+ms.length<=maxLen:=by unfold maxLen; omega
 have main:∃ v' w',(Builtin.append_ #[25,25] 25 #[v,.slice ao ms.length c]).run Tryz.prog W=.ok v' w'∧w'.ownsRow 0 9 1 v' (ss.length+ms.length) (V ss++V ms)∧Gro W w' v v':=by
  by_cases hl:ms=[]
  ·subst hl
   have hsr:Src Tryz.prog i0.size 25 (.slice ao 0 c) 0 [] W:=by
    cases ao with
    | none=>exact Src.ofNil W Tryz.underlying25 c
    | some ad=>exact Src.ofSlice W Tryz.underlying25 ad 0 c [] (by simp) (fun j u h=>by simp at h) (fun u h=>by cases h)
   have ho:=hO.own;rcases ho.2 with ⟨rfl,h0⟩ | ⟨g,cap,cur,rfl,_,_,hnc,_⟩
   ·exact ⟨_,_,run_append_nothing W 25 25 25 9 i0 Tryz.underlying25 hi none 0 0 (Nat.le_refl _) _ hsr,by simpa [V] using ho,Gro.refl _ _⟩
   ·exact ⟨_,_,run_append_nothing W 25 25 25 9 i0 Tryz.underlying25 hi _ ss.length cap hnc _ hsr,by simpa [V] using ho,Gro.refl _ _⟩
  ·rcases hsrc with h | ⟨b,off,rfl,h2⟩
   ·exact (hl h).elim
   ·exact xq_ (P:=Tryz.prog) W 25 25 9 i0 (.string ⟨#[]⟩) 1 16 Tryz.underlying25 hi hz0 hz1 hz2 rfl (by decide) v ss.length (V ss) hO.own ⟨b,off,none⟩ ms.length c (V ms) (by rw [q5_]; omega) (pc_ h2) (nd_ _) hml (by omega)
 obtain ⟨v',w',hr,ho,hg⟩:=main;obtain ⟨vo,vc,rfl⟩:=rf_ ho;refine ⟨vo,vc,w',hr,⟨?_,fun k hk=>?_⟩,hg⟩
 ·rw [nW_,List.length_append]; exact ho
 ·rcases hg.fresh k hk with h' | h'
  ·exact hO.ge k h'
  ·omega
theorem yf_ {W:World} {o:Oper} {a:Act} {K:Act->World->Prop} {Q:Exit->Act->World->Prop} (s x:Operand)
  (ho:o.op=.call { callee:=.builtin .append,args:=#[s,x],argTypes:=#[25,25] }) (hty:o.type=25)
  (v:Value) (n:Nat) (ss:List ByteArray) (lo tt:Nat) (hs:a.eval s=v) (hn:n=ss.length) (hO:OwnT W v ss lo) (hlo:lo<=W.heap.size) (ao:Option Addr) (m c:Nat) (ms:List ByteArray) (hx:a.eval x=.slice ao m c) (hm:m=ms.length) (hsrc:TRow W ao ms) (h20:n+m<=4194304) (htt:tt=n+m)
  (h:∀ vo vc w',OwnT w' (.slice vo tt vc) (ss++ms) lo->Gro W w' v (.slice vo tt vc)->K (a.put o.dst (.slice vo tt vc)) w'):o.wp Tryz.prog a W K Q:=by
 obtain ⟨vo,vc,w',hr,h2,h3⟩:=po_ W v n ss lo tt hn hO hlo ao m c ms hm hsrc h20 htt;unfold Oper.wp execOp;simp only [ho,hty,resolve,invoke,builtin,Sem.run_bind,Sem.run_pure,Result.andThen_ok,List.map_toArray,List.map_cons,List.map_nil,hs,hx,hr];exact h vo vc w' h2 h3
theorem xk_ {W:World} {ops:Array Oper} {rest:List Oper} {o:Oper} {a:Act} {Q:Exit->Act->World->Prop} (hgd:o.guard=none) (s x:Operand)
  (ho:o.op=.call { callee:=.builtin .append,args:=#[s,x],argTypes:=#[25,25] }) (hty:o.type=25)
  (v:Value) (n:Nat) (ss:List ByteArray) (lo tt:Nat) (hs:a.eval s=v) (hn:n=ss.length) (hO:OwnT W v ss lo) (hlo:lo<=W.heap.size) (ao:Option Addr) (m c:Nat) (ms:List ByteArray) (hx:a.eval x=.slice ao m c) (hm:m=ms.length) (hsrc:TRow W ao ms) (h20:n+m<=4194304) (htt:tt=n+m)
  (h:∀ vo vc w',OwnT w' (.slice vo tt vc) (ss++ms) lo->Gro W w' v (.slice vo tt vc)->wpList Tryz.prog ops Q rest (a.put o.dst (.slice vo tt vc)) w'):wpList Tryz.prog ops Q (o :: rest) a W:=
 wpList_plain hgd fun _ hK=>yf_ s x ho hty v n ss lo tt hs hn hO hlo ao m c ms hx hm hsrc h20 htt (fun vo vc w' h2 h3=>hK _ _ (h vo vc w' h2 h3))
theorem OwnT.below (h:OwnT W v ss lo) (hb:Below w.heap.size w W) (hlo:w.heap.size<=lo) (hg:Gro W W' v v'):Below w.heap.size w W':=
 hb.trans (hg.below hb.size (fun k hk=>Nat.le_trans hlo (h.ge k hk)))
theorem OwnT.cell {o:Nat} (h:OwnT W v ss lo) (hg:Gro W W' v v') (hc:W.cell? ⟨b,o,none⟩=some u) (hb:b < lo):W'.cell? ⟨b,o,none⟩=some u:=
 hg.cell hc (fun e=>by have:=h.ge b e; omega)
theorem OwnT.frozen {o:Nat} (h:OwnT W v ss lo) (hg:Gro W W' v v') (hc:W.frozen? ⟨b,o,none⟩=false) (hl:b < W.heap.size) (hb:b < lo):W'.frozen? ⟨b,o,none⟩=false:=by
 rw [World.frozen?_of_block (w:=W) (hg.grown.block b hl (fun e=>by have:=h.ge b e.symm; omega))]; exact hc
end
section
variable {W W':World} {lo:Nat} {ru ss:List ByteArray} {t:TypeId} {u v v' v0 v1:Value}
def DP (w:World) (code:Int) (rs ru:List ByteArray) (e:Ending) (w':World):Prop:=∃ p0 c0 p1 c1,e=.returned (.tuple #[.agg #[.slice p0 rs.length c0,.slice p1 ru.length c1],.int .i64 code])∧Below w.heap.size w w'∧Own2 w' (.slice p0 rs.length c0) (.slice p1 ru.length c1) rs ru w.heap.size w'.heap.size
theorem px_ (W:World) (lo hi:Nat):Own2 W (.slice none 0 0) (.slice none 0 0) [] [] lo hi:=
 ⟨World.ownsRow_nil W 0 9 1,World.ownsRow_nil W 0 9 1,fun k hk=>absurd hk Gro.none_ne,fun k hk=>absurd hk Gro.none_ne,fun k hk=>absurd hk Gro.none_ne⟩
structure Th2 (W:World) (p:Nat):Prop where
 cells:(∃ u,W.cell? ⟨p,0,none⟩=some u)∧(∃ u,W.cell? ⟨p,1,none⟩=some u)
 f0:W.frozen? ⟨p,0,none⟩=false
 f1:W.frozen? ⟨p,1,none⟩=false
theorem Th2.next {p:Nat} (h:Th2 W p) (hb:Below W.heap.size W W'):Th2 W' p:=by
 obtain ⟨⟨⟨u,h0⟩,⟨v,h1⟩⟩,f0,f1⟩:=h;exact ⟨⟨⟨u,za_ hb h0 (zs_ h0)⟩,⟨v,za_ hb h1 (zs_ h1)⟩⟩,zf_ hb f0 (zs_ h0),zf_ hb f1 (zs_ h0)⟩
theorem Th2.gro {p:Nat} (h:Th2 W p) (ho:OwnT W v ss lo) (hg:Gro W W' v v') (hp:p < lo):Th2 W' p:=by
 obtain ⟨⟨⟨u,h0⟩,⟨u',h1⟩⟩,f0,f1⟩:=h;exact ⟨⟨⟨u,ho.cell hg h0 hp⟩,⟨u',ho.cell hg h1 hp⟩⟩,ho.frozen hg f0 (zs_ h0) hp,ho.frozen hg f1 (zs_ h0) hp⟩
theorem wW_:Th2 (W.alloc (.cells #[v0,v1] t)) W.heap.size:=⟨⟨⟨v0,by go_simp⟩,⟨v1,by go_simp⟩⟩,by go_simp,by go_simp⟩
theorem zY_ {p:Nat} (h:Th2 W p):((W.setCell ⟨p,0,none⟩ v0).setCell ⟨p,1,none⟩ v1).cell? ⟨p,0,none⟩=some v0∧((W.setCell ⟨p,0,none⟩ v0).setCell ⟨p,1,none⟩ v1).cell? ⟨p,1,none⟩=some v1:=by
 obtain ⟨⟨⟨u,h0⟩,⟨u',h1⟩⟩,_,_⟩:=h;refine ⟨?_,?_⟩
 ·rw [World.cell?_setCell_other _ _ _ _ (fun e=>by cases e)];exact World.cell?_setCell_same W _ _ h0
 ·have h2:(W.setCell ⟨p,0,none⟩ v0).cell? ⟨p,1,none⟩=some u':=by
   rw [World.cell?_setCell_other _ _ _ _ (fun e=>by cases e)]; exact h1
  exact World.cell?_setCell_same _ _ _ h2
theorem OwnT.apart (hu:OwnT W u ss lo) (hne:∀ k,v.ownBlock=some k->u.ownBlock≠some k) (hg:Gro W W' v v'):OwnT W' u ss lo∧∀ k,v'.ownBlock=some k->u.ownBlock≠some k:=by
 refine ⟨⟨ot_ hu.own hg (fun k hk e=>hne k e hk),hu.ge⟩,fun k hk e=>?_⟩;rcases hg.fresh k hk with h' | h'
 ·exact hne k h' e
 ·have:=(hu.own.lt k e).2; omega
theorem xK_ {rs:List ByteArray} (h0:OwnT W v0 rs lo) (h1:OwnT W v1 ru lo) (hne:∀ k,v0.ownBlock=some k->v1.ownBlock≠some k):Own2 W v0 v1 rs ru lo W.heap.size:=⟨h0.own,h1.own,h0.lt,h1.lt,hne⟩
theorem pd_ {p:Nat} (h:Th2 W p):Th2 W.drew p:=h.next (zd_ _)
theorem x5_ (v0 v1:Value) (ss us:List ByteArray) (w:World) (hn:ss.length<=1048576) (hn':us.length<=1048576) (hr0:RowV w v0 ss) (hs0:RowV w v1 us) :
  Calls Tryz.prog 120 #[.agg #[v0,v1]] w fun e w'=>∃ p0 c0 p1 c1,e=.returned (.agg #[.slice p0 (ss.length+us.length) c0,.slice p1 0 c1])∧Below w.heap.size w w'∧Own2 w' (.slice p0 (ss.length+us.length) c0) (.slice p1 0 c1) ([]++ss++us) [] w.heap.size w'.heap.size:=by
 obtain ⟨ao,c0,rfl,_,hr0⟩:=hr0;obtain ⟨bo,c1,rfl,_,hs0⟩:=hs0;have RA:Hid (TRow w ao ss):=hr0;have RU:Hid (TRow w bo us):=hs0;obtain ⟨n,hn0⟩:∃ n,n=ss.length:=⟨_,rfl⟩;obtain ⟨m,hm0⟩:∃ m,m=us.length:=⟨_,rfl⟩;have HN:Hid (n=ss.length):=hn0;have HM:Hid (m=us.length):=hm0;rw [<- hn0,<- hm0];rw [<- hn0] at hn;rw [<- hm0] at hn';clear hn0 hm0 hr0 hs0;have B0:Hid (Below w.heap.size w ((w.alloc (.cells #[.slice ao n c0,.slice bo m c1] 27)).alloc (.cells #[.slice none 0 0,.slice none 0 0] 27))):=((Below.refl _ _).alloc (Nat.le_refl _) _).alloc (by simp) _;go_enter Tryz.func120,Tryz.ntmps120;go_wp2;refine wp_region_held_drew (S:=(fun w'=>(w'.cell? ⟨w.heap.size,0,none⟩=some (.slice ao n c0)∧w'.cell? ⟨w.heap.size,1,none⟩=some (.slice bo m c1))∧(w.heap.size+1+1)<=w'.heap.size∧Below w.heap.size w w')) (by kernel_rfl) ?_ (fun hH=>?_)
 ·(try dsimp only);exact ⟨⟨by go_simp,by go_simp⟩,by simp,B0.out.drew⟩
 refine wTk 1 ?_;refine wTk 2 ?_;refine wTk 4 ?_;refine wTk 5 ?_;have TH:Hid (Th2 (((w.alloc (.cells #[.slice ao n c0,.slice bo m c1] 27)).alloc (.cells #[.slice none 0 0,.slice none 0 0] 27)).drew) (w.heap.size+1)):=pd_ (by have:=wW_ (W:=(w.alloc (.cells #[.slice ao n c0,.slice bo m c1] 27))) (v0:=.slice none 0 0) (v1:=.slice none 0 0) (t:=27); simpa using this);generalize ((w.alloc (.cells #[.slice ao n c0,.slice bo m c1] 27)).alloc (.cells #[.slice none 0 0,.slice none 0 0] 27)).drew=wd at *;clear B0;refine wpAnyH_ready (rs:=[0,7]) (by kernel_rfl) (by simp) ?_;refine .cons rfl (fun K hK=>?_) (.cons rfl (fun K hK=>?_) .nil)
 ·refine wLy ?_;have C':OwnT (wd.alloc (.cells #[] 9)) (.slice (some ⟨wd.heap.size,0,none⟩) 0 0) [] (w.heap.size+1+1):=OwnT.new hH.2.1;have hba:=zb_ wd (.cells #[] 9);go_simp;(try simp only []);refine wHk hK (⟨⟨za_ hba hH.1.1 (zs_ hH.1.1),za_ hba hH.1.2 (zs_ hH.1.2)⟩,Nat.le_trans hH.2.1 (hba).size,(ze_ (w:=w) hH.2.2 hba).out⟩) ?_;clear hK K hH;intro hH;replace TH:Hid _:=TH.out.next hba;have C:Hid _:=C';clear C' hba;generalize wd.alloc (.cells #[] 9)=w2 at *;generalize wd.heap.size=g0 at *;refine wpAnyH_ready (rs:=[3,7]) (by kernel_rfl) (by simp) ?_;refine .cons rfl (fun K hK=>?_) (.cons rfl (fun K hK=>?_) .nil)
  ·refine wLy ?_;rw [if_pos (by rfl)];refine yf_ (.tmp 3) (.tmp 5) rfl rfl (Value.slice (some ⟨g0,0,none⟩) 0 0) 0 [] (w.heap.size+1+1) n rfl rfl C.out hH.2.1 ao n c0 ss rfl HN.out (RA.out.next hH.2.2) (by omega) (by omega) ?_;intro vow3 vcw3 w3 hO hg;refine wHk hK (⟨⟨C.out.cell hg hH.1.1 (by omega),C.out.cell hg hH.1.2 (by omega)⟩,Nat.le_trans hH.2.1 hg.size,C.out.below hH.2.2 (by omega) hg⟩) ?_;clear hK K hH;intro hH;replace TH:Hid _:=TH.out.gro C.out hg (by omega);replace C:Hid _:=hO;clear hO hg;refine wpAnyH_ready (rs:=[6,7]) (by kernel_rfl) (by simp) ?_;refine .cons rfl (fun K hK=>?_) (.cons rfl (fun K hK=>?_) .nil)
   ·refine wLy ?_;rw [if_pos (by rfl)];refine yf_ (.tmp 6) (.tmp 8) rfl rfl (Value.slice vow3 n vcw3) n ([]++ss) (w.heap.size+1+1) (n+m) rfl (by simpa using HN.out) C.out hH.2.1 bo m c1 us rfl HM.out (RU.out.next hH.2.2) (by omega) rfl ?_;intro vow4 vcw4 w4 hO hg;refine wHk hK (⟨⟨C.out.cell hg hH.1.1 (by omega),C.out.cell hg hH.1.2 (by omega)⟩,Nat.le_trans hH.2.1 hg.size,C.out.below hH.2.2 (by omega) hg⟩) ?_;clear hK K hH;intro hH;replace TH:Hid _:=TH.out.gro C.out hg (by omega);replace C:Hid _:=hO;clear hO hg;refine wRd 7 (fun K hK=>?_);have N':OwnT (w4.alloc (.cells #[] 9)) (.slice (some ⟨w4.heap.size,0,none⟩) 0 0) [] (w.heap.size+1+1):=OwnT.new hH.2.1;have hba:=zb_ w4 (.cells #[] 9);have NE:Hid (∀ k,(Value.slice vow4 (n+m) vcw4).ownBlock=some k->((Value.slice (some ⟨w4.heap.size,0,none⟩) 0 0)).ownBlock≠some k):=fun k e e_=>by have:=(C.out.own.lt _ e).2; simp [Value.ownBlock] at e_; omega
    go_simp;(try simp only []);refine wHk hK (⟨⟨za_ hba hH.1.1 (zs_ hH.1.1),za_ hba hH.1.2 (zs_ hH.1.2)⟩,Nat.le_trans hH.2.1 (hba).size,(ze_ (w:=w) hH.2.2 hba).out⟩) ?_;clear hK K hH;intro hH;replace C:Hid _:=C.out.next hba;replace TH:Hid _:=TH.out.next hba;have N:Hid _:=N';clear N' hba;generalize w4.alloc (.cells #[] 9)=w5 at *;generalize w4.heap.size=g7 at *;refine wTk 8 ?_;obtain ⟨⟨⟨u0,T0⟩,⟨u1,T1⟩⟩,Z0,Z1⟩:=TH.out;refine wRd 9 (fun K hK=>?_);go_simp;(try simp only []);refine wHk hK (⟨⟨zg_ (zg_ hH.1.1 (by omega)) (by omega),zg_ (zg_ hH.1.2 (by omega)) (by omega)⟩,by simpa [World.setCell] using hH.2.1,zR_ (zR_ hH.2.2 (by omega)) (by omega)⟩) ?_;clear hK K hH;intro hH;have CC:=zY_ (v0:=Value.slice vow4 (n+m) vcw4) (v1:=Value.slice (some ⟨g7,0,none⟩) 0 0) TH.out;obtain ⟨C0,C1⟩:=CC;have OO:=xK_ C.out N.out NE.out;have HZ:Hid (w.heap.size+1+1<=w5.heap.size∧Below w.heap.size w _):=⟨by simpa [World.setCell] using hH.2.1,hH.2.2⟩;have O9:Hid _:=Own2.set (g:=w.heap.size+1) (o:=1) (u:=Value.slice (some ⟨g7,0,none⟩) 0 0) (Own2.set (g:=w.heap.size+1) (o:=0) (u:=Value.slice vow4 (n+m) vcw4) OO (Or.inl (by omega))) (Or.inl (by omega));clear T0 T1 Z0 Z1 hH OO TH C N NE;refine wDn ?_;go_wp2_with fail;refine bodyPost_ret (v:=.agg #[Value.slice vow4 (n+m) vcw4,Value.slice (some ⟨g7,0,none⟩) 0 0]) (by simp [results,Tryz.results120,go_sem, *]) rfl ?_;exact ⟨_,_,_,_,rfl,HZ.out.2,Own2.weak O9.out (by omega) (by simp)⟩
   ·refine wLy ?_;have N':OwnT (w3.alloc (.cells #[] 9)) (.slice (some ⟨w3.heap.size,0,none⟩) 0 0) [] (w.heap.size+1+1):=OwnT.new hH.2.1;have hba:=zb_ w3 (.cells #[] 9);have NE:Hid (∀ k,(Value.slice vow3 n vcw3).ownBlock=some k->((Value.slice (some ⟨w3.heap.size,0,none⟩) 0 0)).ownBlock≠some k):=fun k e e_=>by have:=(C.out.own.lt _ e).2; simp [Value.ownBlock] at e_; omega
    go_simp;(try simp only []);refine wHk hK (⟨⟨za_ hba hH.1.1 (zs_ hH.1.1),za_ hba hH.1.2 (zs_ hH.1.2)⟩,Nat.le_trans hH.2.1 (hba).size,(ze_ (w:=w) hH.2.2 hba).out⟩) ?_;clear hK K hH;intro hH;replace C:Hid _:=C.out.next hba;replace TH:Hid _:=TH.out.next hba;have N:Hid _:=N';clear N' hba;generalize w3.alloc (.cells #[] 9)=w4 at *;generalize w3.heap.size=g7 at *;refine wRd 6 (fun K hK=>?_);rw [if_pos (by rfl)];refine yf_ (.tmp 6) (.tmp 8) rfl rfl (Value.slice vow3 n vcw3) n ([]++ss) (w.heap.size+1+1) (n+m) rfl (by simpa using HN.out) C.out hH.2.1 bo m c1 us rfl HM.out (RU.out.next hH.2.2) (by omega) rfl ?_;intro vow5 vcw5 w5 hO hg;have hap:=N.out.apart NE.out hg;refine wHk hK (⟨⟨C.out.cell hg hH.1.1 (by omega),C.out.cell hg hH.1.2 (by omega)⟩,Nat.le_trans hH.2.1 hg.size,C.out.below hH.2.2 (by omega) hg⟩) ?_;clear hK K hH;intro hH;replace N:Hid _:=hap.1;replace NE:Hid _:=hap.2;clear hap;replace TH:Hid _:=TH.out.gro C.out hg (by omega);replace C:Hid _:=hO;clear hO hg;refine wTk 8 ?_;obtain ⟨⟨⟨u0,T0⟩,⟨u1,T1⟩⟩,Z0,Z1⟩:=TH.out;refine wRd 9 (fun K hK=>?_);go_simp;(try simp only []);refine wHk hK (⟨⟨zg_ (zg_ hH.1.1 (by omega)) (by omega),zg_ (zg_ hH.1.2 (by omega)) (by omega)⟩,by simpa [World.setCell] using hH.2.1,zR_ (zR_ hH.2.2 (by omega)) (by omega)⟩) ?_;clear hK K hH;intro hH;have CC:=zY_ (v0:=Value.slice vow5 (n+m) vcw5) (v1:=Value.slice (some ⟨g7,0,none⟩) 0 0) TH.out;obtain ⟨C0,C1⟩:=CC;have OO:=xK_ C.out N.out NE.out;have HZ:Hid (w.heap.size+1+1<=w5.heap.size∧Below w.heap.size w _):=⟨by simpa [World.setCell] using hH.2.1,hH.2.2⟩;have O9:Hid _:=Own2.set (g:=w.heap.size+1) (o:=1) (u:=Value.slice (some ⟨g7,0,none⟩) 0 0) (Own2.set (g:=w.heap.size+1) (o:=0) (u:=Value.slice vow5 (n+m) vcw5) OO (Or.inl (by omega))) (Or.inl (by omega));clear T0 T1 Z0 Z1 hH OO TH C N NE;refine wDn ?_;go_wp2_with fail;refine bodyPost_ret (v:=.agg #[Value.slice vow5 (n+m) vcw5,Value.slice (some ⟨g7,0,none⟩) 0 0]) (by simp [results,Tryz.results120,go_sem, *]) rfl ?_;exact ⟨_,_,_,_,rfl,HZ.out.2,Own2.weak O9.out (by omega) (by simp)⟩
  ·refine wLy ?_;have N':OwnT (w2.alloc (.cells #[] 9)) (.slice (some ⟨w2.heap.size,0,none⟩) 0 0) [] (w.heap.size+1+1):=OwnT.new hH.2.1;have hba:=zb_ w2 (.cells #[] 9);have NE:Hid (∀ k,(Value.slice (some ⟨g0,0,none⟩) 0 0).ownBlock=some k->((Value.slice (some ⟨w2.heap.size,0,none⟩) 0 0)).ownBlock≠some k):=fun k e e_=>by have:=(C.out.own.lt _ e).2; simp [Value.ownBlock] at e_; omega
   go_simp;(try simp only []);refine wHk hK (⟨⟨za_ hba hH.1.1 (zs_ hH.1.1),za_ hba hH.1.2 (zs_ hH.1.2)⟩,Nat.le_trans hH.2.1 (hba).size,(ze_ (w:=w) hH.2.2 hba).out⟩) ?_;clear hK K hH;intro hH;replace C:Hid _:=C.out.next hba;replace TH:Hid _:=TH.out.next hba;have N:Hid _:=N';clear N' hba;generalize w2.alloc (.cells #[] 9)=w3 at *;generalize w2.heap.size=g7 at *;refine wRd 3 (fun K hK=>?_);rw [if_pos (by rfl)];refine yf_ (.tmp 3) (.tmp 5) rfl rfl (Value.slice (some ⟨g0,0,none⟩) 0 0) 0 [] (w.heap.size+1+1) n rfl rfl C.out hH.2.1 ao n c0 ss rfl HN.out (RA.out.next hH.2.2) (by omega) (by omega) ?_;intro vow4 vcw4 w4 hO hg;have hap:=N.out.apart NE.out hg;refine wHk hK (⟨⟨C.out.cell hg hH.1.1 (by omega),C.out.cell hg hH.1.2 (by omega)⟩,Nat.le_trans hH.2.1 hg.size,C.out.below hH.2.2 (by omega) hg⟩) ?_;clear hK K hH;intro hH;replace N:Hid _:=hap.1;replace NE:Hid _:=hap.2;clear hap;replace TH:Hid _:=TH.out.gro C.out hg (by omega);replace C:Hid _:=hO;clear hO hg;refine wRd 6 (fun K hK=>?_);rw [if_pos (by rfl)];refine yf_ (.tmp 6) (.tmp 8) rfl rfl (Value.slice vow4 n vcw4) n ([]++ss) (w.heap.size+1+1) (n+m) rfl (by simpa using HN.out) C.out hH.2.1 bo m c1 us rfl HM.out (RU.out.next hH.2.2) (by omega) rfl ?_;intro vow5 vcw5 w5 hO hg;have hap:=N.out.apart NE.out hg;refine wHk hK (⟨⟨C.out.cell hg hH.1.1 (by omega),C.out.cell hg hH.1.2 (by omega)⟩,Nat.le_trans hH.2.1 hg.size,C.out.below hH.2.2 (by omega) hg⟩) ?_;clear hK K hH;intro hH;replace N:Hid _:=hap.1;replace NE:Hid _:=hap.2;clear hap;replace TH:Hid _:=TH.out.gro C.out hg (by omega);replace C:Hid _:=hO;clear hO hg;refine wTk 8 ?_;obtain ⟨⟨⟨u0,T0⟩,⟨u1,T1⟩⟩,Z0,Z1⟩:=TH.out;refine wRd 9 (fun K hK=>?_);go_simp;(try simp only []);refine wHk hK (⟨⟨zg_ (zg_ hH.1.1 (by omega)) (by omega),zg_ (zg_ hH.1.2 (by omega)) (by omega)⟩,by simpa [World.setCell] using hH.2.1,zR_ (zR_ hH.2.2 (by omega)) (by omega)⟩) ?_;clear hK K hH;intro hH;have CC:=zY_ (v0:=Value.slice vow5 (n+m) vcw5) (v1:=Value.slice (some ⟨g7,0,none⟩) 0 0) TH.out;obtain ⟨C0,C1⟩:=CC;have OO:=xK_ C.out N.out NE.out;have HZ:Hid (w.heap.size+1+1<=w5.heap.size∧Below w.heap.size w _):=⟨by simpa [World.setCell] using hH.2.1,hH.2.2⟩;have O9:Hid _:=Own2.set (g:=w.heap.size+1) (o:=1) (u:=Value.slice (some ⟨g7,0,none⟩) 0 0) (Own2.set (g:=w.heap.size+1) (o:=0) (u:=Value.slice vow5 (n+m) vcw5) OO (Or.inl (by omega))) (Or.inl (by omega));clear T0 T1 Z0 Z1 hH OO TH C N NE;refine wDn ?_;go_wp2_with fail;refine bodyPost_ret (v:=.agg #[Value.slice vow5 (n+m) vcw5,Value.slice (some ⟨g7,0,none⟩) 0 0]) (by simp [results,Tryz.results120,go_sem, *]) rfl ?_;exact ⟨_,_,_,_,rfl,HZ.out.2,Own2.weak O9.out (by omega) (by simp)⟩
 ·refine wLy ?_;have N':OwnT (wd.alloc (.cells #[] 9)) (.slice (some ⟨wd.heap.size,0,none⟩) 0 0) [] (w.heap.size+1+1):=OwnT.new hH.2.1;have hba:=zb_ wd (.cells #[] 9);go_simp;(try simp only []);refine wHk hK (⟨⟨za_ hba hH.1.1 (zs_ hH.1.1),za_ hba hH.1.2 (zs_ hH.1.2)⟩,Nat.le_trans hH.2.1 (hba).size,(ze_ (w:=w) hH.2.2 hba).out⟩) ?_;clear hK K hH;intro hH;replace TH:Hid _:=TH.out.next hba;have N:Hid _:=N';clear N' hba;generalize wd.alloc (.cells #[] 9)=w2 at *;generalize wd.heap.size=g7 at *;refine wRd 0 (fun K hK=>?_);have C':OwnT (w2.alloc (.cells #[] 9)) (.slice (some ⟨w2.heap.size,0,none⟩) 0 0) [] (w.heap.size+1+1):=OwnT.new hH.2.1;have hba:=zb_ w2 (.cells #[] 9);have NE:Hid (∀ k,((Value.slice (some ⟨w2.heap.size,0,none⟩) 0 0)).ownBlock=some k->(Value.slice (some ⟨g7,0,none⟩) 0 0).ownBlock≠some k):=fun k e e_=>by have:=(N.out.own.lt _ e_).2; simp [Value.ownBlock] at e; omega
  go_simp;(try simp only []);refine wHk hK (⟨⟨za_ hba hH.1.1 (zs_ hH.1.1),za_ hba hH.1.2 (zs_ hH.1.2)⟩,Nat.le_trans hH.2.1 (hba).size,(ze_ (w:=w) hH.2.2 hba).out⟩) ?_;clear hK K hH;intro hH;replace N:Hid _:=N.out.next hba;replace TH:Hid _:=TH.out.next hba;have C:Hid _:=C';clear C' hba;generalize w2.alloc (.cells #[] 9)=w3 at *;generalize w2.heap.size=g0 at *;refine wRd 3 (fun K hK=>?_);rw [if_pos (by rfl)];refine yf_ (.tmp 3) (.tmp 5) rfl rfl (Value.slice (some ⟨g0,0,none⟩) 0 0) 0 [] (w.heap.size+1+1) n rfl rfl C.out hH.2.1 ao n c0 ss rfl HN.out (RA.out.next hH.2.2) (by omega) (by omega) ?_;intro vow4 vcw4 w4 hO hg;have hap:=N.out.apart NE.out hg;refine wHk hK (⟨⟨C.out.cell hg hH.1.1 (by omega),C.out.cell hg hH.1.2 (by omega)⟩,Nat.le_trans hH.2.1 hg.size,C.out.below hH.2.2 (by omega) hg⟩) ?_;clear hK K hH;intro hH;replace N:Hid _:=hap.1;replace NE:Hid _:=hap.2;clear hap;replace TH:Hid _:=TH.out.gro C.out hg (by omega);replace C:Hid _:=hO;clear hO hg;refine wRd 6 (fun K hK=>?_);rw [if_pos (by rfl)];refine yf_ (.tmp 6) (.tmp 8) rfl rfl (Value.slice vow4 n vcw4) n ([]++ss) (w.heap.size+1+1) (n+m) rfl (by simpa using HN.out) C.out hH.2.1 bo m c1 us rfl HM.out (RU.out.next hH.2.2) (by omega) rfl ?_;intro vow5 vcw5 w5 hO hg;have hap:=N.out.apart NE.out hg;refine wHk hK (⟨⟨C.out.cell hg hH.1.1 (by omega),C.out.cell hg hH.1.2 (by omega)⟩,Nat.le_trans hH.2.1 hg.size,C.out.below hH.2.2 (by omega) hg⟩) ?_;clear hK K hH;intro hH;replace N:Hid _:=hap.1;replace NE:Hid _:=hap.2;clear hap;replace TH:Hid _:=TH.out.gro C.out hg (by omega);replace C:Hid _:=hO;clear hO hg;refine wTk 8 ?_;obtain ⟨⟨⟨u0,T0⟩,⟨u1,T1⟩⟩,Z0,Z1⟩:=TH.out;refine wRd 9 (fun K hK=>?_);go_simp;(try simp only []);refine wHk hK (⟨⟨zg_ (zg_ hH.1.1 (by omega)) (by omega),zg_ (zg_ hH.1.2 (by omega)) (by omega)⟩,by simpa [World.setCell] using hH.2.1,zR_ (zR_ hH.2.2 (by omega)) (by omega)⟩) ?_;clear hK K hH;intro hH;have CC:=zY_ (v0:=Value.slice vow5 (n+m) vcw5) (v1:=Value.slice (some ⟨g7,0,none⟩) 0 0) TH.out;obtain ⟨C0,C1⟩:=CC;have OO:=xK_ C.out N.out NE.out;have HZ:Hid (w.heap.size+1+1<=w5.heap.size∧Below w.heap.size w _):=⟨by simpa [World.setCell] using hH.2.1,hH.2.2⟩;have O9:Hid _:=Own2.set (g:=w.heap.size+1) (o:=1) (u:=Value.slice (some ⟨g7,0,none⟩) 0 0) (Own2.set (g:=w.heap.size+1) (o:=0) (u:=Value.slice vow5 (n+m) vcw5) OO (Or.inl (by omega))) (Or.inl (by omega));clear T0 T1 Z0 Z1 hH OO TH C N NE;refine wDn ?_;go_wp2_with fail;refine bodyPost_ret (v:=.agg #[Value.slice vow5 (n+m) vcw5,Value.slice (some ⟨g7,0,none⟩) 0 0]) (by simp [results,Tryz.results120,go_sem, *]) rfl ?_;exact ⟨_,_,_,_,rfl,HZ.out.2,Own2.weak O9.out (by omega) (by simp)⟩
end
theorem th_ (v0 v1:Value) (ss us:List ByteArray) (w:World) (hn:ss.length<=1048576) (hn':us.length<=1048576) (hr0:RowV w v0 ss) (hs0:RowV w v1 us) :
  Calls Tryz.prog 110 #[.agg #[v0,v1]] w (DP w (if ss.length+us.length<=300 then 0 else 1) (if ss.length+us.length<=300 then ss++us else []) []):=by
 have RA:Hid (RowV w v0 ss):=hr0;have RU:Hid (RowV w v1 us):=hs0;clear hr0 hs0;have B0:Hid (Below w.heap.size w ((w.alloc (.cells #[v0,v1] 27)).alloc (.cells #[.slice none 0 0,.slice none 0 0] 27))):=((Below.refl _ _).alloc (Nat.le_refl _) _).alloc (by simp) _;by_cases hok:ss.length+us.length<=300
 ·rw [if_pos hok,if_pos hok];have hd:decide (ss.length+us.length<=300)=true:=decide_eq_true hok;go_enter Tryz.func110,Tryz.ntmps110;go_wp2_with fail;refine (uy_ v0 v1 ss us _ hn hn' (RA.out.next B0.out) (RU.out.next B0.out)).mono ?_;rintro e w1 ⟨rfl,hb⟩;have HB:Hid (Below w.heap.size w w1):=ze_ B0 hb;have hz:=hb.size;simp at hz;have HZ:=hm_ hz;have x0:w1.cell? ⟨w.heap.size,0,none⟩=some v0:=za_ hb (by go_simp) (by simp; omega);have x1:w1.cell? ⟨w.heap.size,1,none⟩=some v1:=za_ hb (by go_simp) (by simp; omega);have p0:w1.cell? ⟨w.heap.size+1,0,none⟩=some (.slice none 0 0):=za_ hb (by go_simp) (by simp);have p1:w1.cell? ⟨w.heap.size+1,1,none⟩=some (.slice none 0 0):=za_ hb (by go_simp) (by simp);have q0:w1.frozen? ⟨w.heap.size+1,0,none⟩=false:=zf_ hb (by go_simp) (by simp);have q1:w1.frozen? ⟨w.heap.size+1,1,none⟩=false:=zf_ hb (by go_simp) (by simp);have TH:Hid (Th2 w1 (w.heap.size+1)):=⟨⟨⟨_,p0⟩,⟨_,p1⟩⟩,q0,q1⟩;clear hb hz B0;rw [hd];obtain ⟨ao,d0,rfl,_,hta⟩:=RA.out;obtain ⟨bo,d1,rfl,_,htb⟩:=RU.out;go_wp2_with fail;refine (xz_ ao bo d0 d1 ss us _ hn hn' (hta.next HB.out) (htb.next HB.out)).mono ?_;rintro e w2 ⟨g,rfl,hb,hg,hG,hO⟩;have HB2:Hid (Below w.heap.size w w2):=ze_ HB hb;have H12:=hm_ hb;have HZ2:=hm_ hb.size;rw [<- List.length_append] at hO;rw [<- List.length_append];obtain ⟨pa,hpa⟩:∃ pa,pa=some (⟨g,0,none⟩:Addr):=⟨_,rfl⟩;obtain ⟨ca,hca⟩:∃ ca,ca=(ss++us).length:=⟨_,rfl⟩;obtain ⟨pb,hpb⟩:∃ pb:Option Addr,pb=none:=⟨_,rfl⟩;obtain ⟨cb,hcb⟩:∃ cb:Nat,cb=0:=⟨_,rfl⟩
  have OX:Hid (Own2 w2 (.slice pa (ss++us).length ca) (.slice pb 0 cb) (ss++us) [] w1.heap.size w2.heap.size):=by
   rw [hpa,hca,hpb,hcb];exact ⟨hO,World.ownsRow_nil _ _ _ _,fun k hk=>by simp [Value.ownBlock] at hk; omega,fun k hk=>absurd hk Gro.none_ne,fun k _ hk=>absurd hk Gro.none_ne⟩
  rw [<- hpa];clear hb hO HB hg hG;have hz:=HZ2.out;have B2:=HB2.out;have y0:w2.cell? ⟨w.heap.size+1,0,none⟩=some (.slice none 0 0):=za_ H12.out p0 (by have:=HZ.out; omega);have y1:w2.cell? ⟨w.heap.size+1,1,none⟩=some (.slice none 0 0):=za_ H12.out p1 (by have:=HZ.out; omega);have z0:w2.frozen? ⟨w.heap.size+1,0,none⟩=false:=zf_ H12.out q0 (by have:=HZ.out; omega);have z1:w2.frozen? ⟨w.heap.size+1,1,none⟩=false:=zf_ H12.out q1 (by have:=HZ.out; omega);have TH2:Th2 w2 (w.heap.size+1):=TH.out.next H12.out;clear x0 x1 p0 p1 q0 q1 TH H12 B2;go_wp2_with fail;refine bodyPost_ret (v:=.tuple #[.agg #[.slice pa (ss++us).length ca,.slice pb 0 cb],.int .i64 0]) (by simp [results,Tryz.results110,go_sem,zY_ TH2, *]) rfl ?_;refine ⟨pa,ca,pb,cb,rfl,zR_ (zR_ HB2.out (by omega)) (by omega),?_⟩;exact Own2.weak (Own2.set (Own2.set OX.out (Or.inl (by have:=HZ.out; omega))) (Or.inl (by have:=HZ.out; omega))) (by have:=HZ.out; omega) (by simp)
 ·rw [if_neg hok,if_neg hok];have hd:decide (ss.length+us.length<=300)=false:=decide_eq_false hok;go_enter Tryz.func110,Tryz.ntmps110;go_wp2_with fail;refine (uy_ v0 v1 ss us _ hn hn' (RA.out.next B0.out) (RU.out.next B0.out)).mono ?_;rintro e w1 ⟨rfl,hb⟩;have HB:Hid (Below w.heap.size w w1):=ze_ B0 hb;have hz:=hb.size;simp at hz;have HZ:=hm_ hz;have x0:w1.cell? ⟨w.heap.size,0,none⟩=some v0:=za_ hb (by go_simp) (by simp; omega);have x1:w1.cell? ⟨w.heap.size,1,none⟩=some v1:=za_ hb (by go_simp) (by simp; omega);have p0:w1.cell? ⟨w.heap.size+1,0,none⟩=some (.slice none 0 0):=za_ hb (by go_simp) (by simp);have p1:w1.cell? ⟨w.heap.size+1,1,none⟩=some (.slice none 0 0):=za_ hb (by go_simp) (by simp);have q0:w1.frozen? ⟨w.heap.size+1,0,none⟩=false:=zf_ hb (by go_simp) (by simp);have q1:w1.frozen? ⟨w.heap.size+1,1,none⟩=false:=zf_ hb (by go_simp) (by simp);have TH:Hid (Th2 w1 (w.heap.size+1)):=⟨⟨⟨_,p0⟩,⟨_,p1⟩⟩,q0,q1⟩;clear hb hz B0;rw [hd];go_wp2_with fail;refine bodyPost_ret (v:=.tuple #[.agg #[.slice none 0 0,.slice none 0 0],.int .i64 1]) (by simp [results,Tryz.results110,go_sem,zY_ TH.out, *]) rfl ?_;exact ⟨none,0,none,0,rfl,zR_ (zR_ HB.out (by omega)) (by omega),px_ _ _ _⟩
section
variable {W W':World} {cap e k lo lo' n:Nat} {p:Option Addr} {u u' v:Value} {vs xs:List Value}
structure OwnG (W:World) (e size:Nat) (v:Value) (n:Nat) (xs:List Value) (lo:Nat):Prop where
 own:W.ownsRow 0 e size v n xs
 ge:∀ k,v.ownBlock=some k->lo<=k
theorem OwnG.next {size:Nat} (h:OwnG W e size v n xs lo) (hb:Below W.heap.size W W'):OwnG W' e size v n xs lo:=⟨zP_ h.own hb,h.ge⟩
theorem OwnG.weak {size:Nat} (h:OwnG W e size v n xs lo) (hl:lo'<=lo):OwnG W e size v n xs lo':=⟨h.own,fun k hk=>Nat.le_trans hl (h.ge k hk)⟩
theorem OwnG.grow {size:Nat} (h:OwnG W e size v n xs lo):∃ p c,v=.slice p n c∧n<=c∧GRow lo W p xs:=yi_ h.own h.ge
theorem OwnG.lt {size:Nat} (h:OwnG W e size v n xs lo):∀ k,v.ownBlock=some k->lo<=k∧k < W.heap.size:=fun k hk=>⟨h.ge k hk,(h.own.lt k hk).2⟩
theorem OwnG.nil (W:World) (e size lo:Nat):OwnG W e size (.slice none 0 0) 0 [] lo:=⟨World.ownsRow_nil W 0 e size,fun k hk=>absurd hk Gro.none_ne⟩
theorem OwnG.lit {size:Nat} (h:lo<=W.heap.size):OwnG (W.alloc (.cells #[] e)) e size (.slice (some ⟨W.heap.size,0,none⟩) 0 0) 0 [] lo:=
 ⟨World.ownsRow_lit (base:=0) (e:=e) (size:=size) W #[] 0 (Nat.zero_le _) (by unfold maxLen; omega) (by simp),fun k hk=>by simp [Value.ownBlock] at hk; omega⟩
theorem OwnG.pre {size:Nat} {a:Addr} (h:OwnG W e size (.slice (some a) n cap) n xs lo) (hk:k<=n):OwnG W e size (.slice (some a) k cap) k (xs.take (k * size)) lo:=by
 refine ⟨⟨?_,?_⟩,fun b hb=>h.ge b (by simpa [Value.ownBlock] using hb)⟩
 ·rw [List.length_take,h.own.1];exact Nat.min_eq_left (Nat.mul_le_mul_right _ hk)
 ·rcases h.own.2 with ⟨h',_⟩ | ⟨g,cap',cur,h',hb,hh,hnc,hcm,hcs,htake⟩
  ·cases h'
  ·cases h';refine .inr ⟨g,cap,cur,rfl,hb,hh,by omega,hcm,hcs,?_⟩;rw [<- htake,List.take_take,Nat.min_eq_left (Nat.mul_le_mul_right _ hk)]
theorem OwnG.apart {size:Nat} (h:OwnG W e size v n xs lo) (hne:∀ k,v.ownBlock=some k->u.ownBlock≠some k) (hg:Gro W W' u u'):OwnG W' e size v n xs lo:=by
 refine ⟨⟨h.own.1,?_⟩,h.ge⟩;rcases h.own.2 with h' | ⟨g,cap,cur,rfl,hb,hh,r⟩
 ·exact .inl h'
 ·refine .inr ⟨g,cap,cur,rfl,hb,?_,r⟩;have hlt:g < W.heap.size:=(h.own.lt g rfl).2;rw [hg.grown.block g hlt (fun e=>hne g rfl e.symm)];exact hh
theorem GRow.gro (h:GRow lo W p vs) (hg:Gro W W' u u') (hu:∀ k,u.ownBlock=some k->∀ x,p=some x->vs≠[]->x.block≠k):GRow lo W' p vs:=by
 rcases h with h | ⟨b,off,h1,h2,h3⟩
 ·exact .inl h
 ·by_cases hv:vs=[]
  ·exact .inl hv
  ·refine .inr ⟨b,off,h1,h2,fun j hj=>?_⟩;refine hg.cell (h3 j hj) (fun e=>hu b e _ h1 hv rfl)
theorem sO_ (hg:Gro W W' u u') (hu:∀ k,u.ownBlock=some k->k < lo):Kept lo W W':=fun b hl hb=>hg.grown.block b hb (fun e=>by have:=hu b e.symm; omega)
structure sf_ (P:Program) (t e size bytes:Nat):Prop where
 ut:P.underlying t=some (.slice e)
 inf:∃ i z,P.info? e=some i∧i.zero=some z∧i.size=size∧i.bytes=bytes∧z.cells.size=size
 pos:0 < size
 small:bytes<=1000
section
variable {P:Program} {t e size bytes:Nat}
theorem pp_ (T:sf_ P t e size bytes) (W:World) (ty:TypeId) (v:Value) (n:Nat) (xs:List Value) (lo tt:Nat) (hO:OwnG W e size v n xs lo) (hlo:lo<=W.heap.size) (ao:Option Addr) (m c:Nat) (ms:List Value) (hm:ms.length=m * size) (h1:∀ u ∈ ms,u.oneCell'=true) (l2:Nat) (hsrc:GRow l2 W ao ms) (h20:n+m<=4194304) (htt:tt=n+m) :
  ∃ vo vc w',(Builtin.append_ #[t,t] ty #[v,.slice ao m c]).run P W=.ok (.slice vo tt vc) w'∧OwnG w' e size (.slice vo tt vc) tt (xs++ms) lo∧Gro W w' v (.slice vo tt vc)∧(∀ k,v.ownBlock=some k->∃ k',(Value.slice vo tt vc).ownBlock=some k'):=by
 subst htt;obtain ⟨i,z,hi,hz,hs,hby,hzs⟩:=T.inf;have hp:=T.pos;have hml:n+m<=maxLen:=by unfold maxLen; omega
 have hbb:(n+m) * bytes<=140737488355328:=Nat.le_trans (Nat.mul_le_mul h20 T.small) (by decide)
 have main:∃ v' w',(Builtin.append_ #[t,t] ty #[v,.slice ao m c]).run P W=.ok v' w'∧w'.ownsRow 0 e size v' (n+m) (xs++ms)∧Gro W w' v v'∧(m=0->v'=v):=by
  by_cases hl:ms=[]
  ·subst hl
   have hm0:m=0:=by
    rcases Nat.eq_zero_or_pos m with h | h
    ·exact h
    ·have:=Nat.mul_pos h hp; simp at hm; omega
   subst hm0
   have hsr:Src P i.size t (.slice ao 0 c) 0 [] W:=by
    cases ao with
    | none=>exact Src.ofNil W T.ut c
    | some ad=>exact Src.ofSlice W T.ut ad 0 c [] (by simp) (fun j u h=>by simp at h) (fun u h=>by cases h)
   have ho:=hO.own;rcases ho.2 with ⟨rfl,h0⟩ | ⟨g,cap,cur,rfl,_,_,hnc,_⟩
   ·subst h0;exact ⟨_,_,run_append_nothing W t t ty e i T.ut hi none 0 0 (Nat.le_refl _) _ hsr,by simpa using ho,Gro.refl _ _,fun _=>rfl⟩
   ·exact ⟨_,_,run_append_nothing W t t ty e i T.ut hi _ n cap hnc _ hsr,by simpa using ho,Gro.refl _ _,fun _=>rfl⟩
  ·rcases hsrc with h | ⟨b,off,rfl,_,h2⟩
   ·exact (hl h).elim
   ·obtain ⟨v',w',r1,r2,r3⟩:=xq_ (P:=P) W t ty e i z size bytes T.ut hi hz hs hby hzs hp v n xs hO.own ⟨b,off,none⟩ m c ms hm (fun j u hu=>by
     obtain ⟨hj,e⟩:=List.getElem?_eq_some_iff.1 hu
     have:=h2 j hj
     rw [e] at this;rw [uD_]
     exact this) h1 hml hbb
    refine ⟨v',w',r1,r2,r3,fun h=>?_⟩;subst h;simp at hm;exact (hl hm).elim
 obtain ⟨v',w',hr,ho,hg,he⟩:=main
 obtain ⟨vo,vc,rfl⟩:∃ vo vc,v'=.slice vo (n+m) vc:=by
  rcases ho.2 with ⟨rfl,h0⟩ | ⟨k,cap,cur,rfl,_⟩
  ·exact ⟨none,0,by rw [h0]⟩
  ·exact ⟨_,_,rfl⟩
 refine ⟨vo,vc,w',hr,⟨ho,fun k hk=>?_⟩,hg,fun k hk=>?_⟩
 ·rcases hg.fresh k hk with h' | h'
  ·exact hO.ge k h'
  ·omega
 ·rcases ho.2 with ⟨h',h0⟩ | ⟨k2,cap,cur,h',_⟩
  ·have:m=0:=by omega
   rw [he this];exact ⟨k,hk⟩
  ·rw [h'];exact ⟨k2,rfl⟩
theorem zx_ (T:sf_ P t e size bytes) {W:World} {o:Oper} {a:Act} {K:Act->World->Prop} {Q:Exit->Act->World->Prop} (s x:Operand)
  (ho:o.op=.call { callee:=.builtin .append,args:=#[s,x],argTypes:=#[t,t] })
  (v:Value) (n:Nat) (xs:List Value) (lo tt:Nat) (hs:a.eval s=v) (hO:OwnG W e size v n xs lo) (hlo:lo<=W.heap.size) (ao:Option Addr) (m c:Nat) (ms:List Value) (hx:a.eval x=.slice ao m c) (hm:ms.length=m * size) (h1:∀ u ∈ ms,u.oneCell'=true) (l2:Nat) (hsrc:GRow l2 W ao ms) (h20:n+m<=4194304) (htt:tt=n+m)
  (h:∀ vo vc w',OwnG w' e size (.slice vo tt vc) tt (xs++ms) lo->Gro W w' v (.slice vo tt vc)->(∀ k,v.ownBlock=some k->∃ k',(Value.slice vo tt vc).ownBlock=some k')->K (a.put o.dst (.slice vo tt vc)) w'):o.wp P a W K Q:=by
 obtain ⟨vo,vc,w',hr,h2,h3,h4⟩:=pp_ T W o.type v n xs lo tt hO hlo ao m c ms hm h1 l2 hsrc h20 htt;unfold Oper.wp execOp;simp only [ho,resolve,invoke,builtin,Sem.run_bind,Sem.run_pure,Result.andThen_ok,List.map_toArray,List.map_cons,List.map_nil,hs,hx,hr];exact h vo vc w' h2 h3 h4
theorem yt_ (T:sf_ P t e size bytes) {W:World} {ops:Array Oper} {rest:List Oper} {o:Oper} {a:Act} {Q:Exit->Act->World->Prop} (hgd:o.guard=none) (s x:Operand)
  (ho:o.op=.call { callee:=.builtin .append,args:=#[s,x],argTypes:=#[t,t] })
  (v:Value) (n:Nat) (xs:List Value) (lo tt:Nat) (hs:a.eval s=v) (hO:OwnG W e size v n xs lo) (hlo:lo<=W.heap.size) (ao:Option Addr) (m c:Nat) (ms:List Value) (hx:a.eval x=.slice ao m c) (hm:ms.length=m * size) (h1:∀ u ∈ ms,u.oneCell'=true) (l2:Nat) (hsrc:GRow l2 W ao ms) (h20:n+m<=4194304) (htt:tt=n+m)
  (h:∀ vo vc w',OwnG w' e size (.slice vo tt vc) tt (xs++ms) lo->Gro W w' v (.slice vo tt vc)->(∀ k,v.ownBlock=some k->∃ k',(Value.slice vo tt vc).ownBlock=some k')->wpList P ops Q rest (a.put o.dst (.slice vo tt vc)) w'):wpList P ops Q (o :: rest) a W:=
 wpList_plain hgd fun _ hK=>zx_ T s x ho v n xs lo tt hs hO hlo ao m c ms hx hm h1 l2 hsrc h20 htt (fun vo vc w' h2 h3 h4=>hK _ _ (h vo vc w' h2 h3 h4))
end
theorem ya_ (l:List Cm):∀ u ∈ zp_ l,u.oneCell'=true:=by
 induction l with
 | nil=>simp [zp_]
 | cons m l ih=>
  intro u hu;simp only [zp_,List.mem_cons] at hu;rcases hu with rfl | rfl | rfl | rfl | rfl | hu
  ·rfl
  ·rfl
  ·rfl
  ·rfl
  ·rfl
  ·exact ih u hu
theorem zv_ (l:List En):∀ u ∈ zl_ l,u.oneCell'=true:=by
 induction l with
 | nil=>simp [zl_]
 | cons m l ih=>
  intro u hu;simp only [zl_,List.mem_cons] at hu;rcases hu with rfl | rfl | rfl | hu
  ·rfl
  ·rfl
  ·rfl
  ·exact ih u hu
theorem qP_ {w:World} {b:Nat}:∀ (ms:List Cm) (off:Nat),(∀ i (h:i < ms.length),CmAt w b (off+i * 5) ms[i])->∀ j (h:j < (zp_ ms).length),w.cell? ⟨b,off+j,none⟩=some (zp_ ms)[j]
 | [],off,_,j,h=>by simp [zp_] at h
 | m :: ms,off,hc,j,h=>by
  obtain ⟨c0,c1,c2,c3,c4⟩:=hc 0 (by simp);simp only [Nat.zero_mul,Nat.add_zero,List.getElem_cons_zero] at c0 c1 c2 c3 c4
  have ih:=qP_ (w:=w) (b:=b) ms (off+5) (fun i hi=>by
   have:=hc (i+1) (by simpa using hi)
   rw [show off+(i+1) * 5=off+5+i * 5 by omega] at this
   simpa using this)
  match j,h with
  | 0,_=>simpa [zp_] using c0
  | 1,_=>simpa [zp_] using c1
  | 2,_=>simpa [zp_] using c2
  | 3,_=>simpa [zp_] using c3
  | 4,_=>simpa [zp_] using c4
  | j+5,h=>
   have:=ih j (by simpa [zp_] using h)
   rw [show off+(j+5)=off+5+j by omega]
   simpa [zp_] using this
theorem elC:sf_ Tryz.prog 23 91 5 64:=by
 refine ⟨Tryz.underlying23,?_,by decide,by decide⟩;have hI:(Tryz.prog.info? 91).map (fun i=>(i.zero,i.size,i.bytes))=some (some (.agg #[.string ⟨#[]⟩,.slice none 0 0,.int .i64 0,.int .i64 0,.int .i64 0]),5,64):=by kernel_rfl
 obtain ⟨i0,hi,hz0,hz1,hz2⟩:=info_parts hI;exact ⟨i0,_,hi,hz0,hz1,hz2,rfl⟩
theorem elE:sf_ Tryz.prog 24 52 3 32:=by
 refine ⟨Tryz.underlying24,?_,by decide,by decide⟩;have hI:(Tryz.prog.info? 52).map (fun i=>(i.zero,i.size,i.bytes))=some (some (.agg #[.int .i64 0,.int .i64 0,.string ⟨#[]⟩]),3,32):=by kernel_rfl
 obtain ⟨i0,hi,hz0,hz1,hz2⟩:=info_parts hI;exact ⟨i0,_,hi,hz0,hz1,hz2,rfl⟩
theorem elT:sf_ Tryz.prog 25 9 1 16:=by
 refine ⟨Tryz.underlying25,?_,by decide,by decide⟩;obtain ⟨i0,hi,hz0,hz1,hz2⟩:=info_parts xW_;exact ⟨i0,_,hi,hz0,hz1,hz2,rfl⟩
end
section
variable {W W' w w':World} {c' e g i lo n q vc:Nat} {o:No} {p p' vo:Option Addr} {u u':Value} {xs:List Value}
theorem nT_ (a b:ByteArray):Op.bytesLess a.toList b.toList=decide (kb a < kb b):=by
 have h:∀ x y:List UInt8,Op.bytesLess x y=decide (x < y):=by
  intro x
  induction x with
  | nil=>intro y; cases y <;> simp [Op.bytesLess]
  | cons u x ih=>
   intro y;cases y with
   | nil=>simp [Op.bytesLess]
   | cons v y=>
    rw [Op.bytesLess,ih y];simp only [List.cons_lt_cons_iff];by_cases h1:u < v <;> by_cases h2:u=v <;> by_cases h3:x < y <;> simp [h1,h2,h3]
 rw [h,Lib.toList_data,Lib.toList_data];rfl
theorem o7_ {a b:ByteArray} (h:kb a < kb b):Op.bytesLess a.toList b.toList=true:=by rw [nT_]; exact decide_eq_true h
theorem o8_ {a b:ByteArray} (h:¬ kb a < kb b):Op.bytesLess a.toList b.toList=false:=by rw [nT_]; exact decide_eq_false h
structure SB (W:World) (g:Nat) (o:No) (c:Cl) (p:Option Addr) (q:Nat):Prop where
 b0:W.cell? ⟨g,0,none⟩=some (.int .i64 o.x.id)
 b1:W.cell? ⟨g,1,none⟩=some (.int .i64 o.x.n)
 b2:W.cell? ⟨g,2,none⟩=some (.int .i64 o.x.cut)
 b3:W.cell? ⟨g,3,none⟩=some (.slice o.p0 o.ms.length o.c0)
 b4:W.cell? ⟨g,4,none⟩=some (.slice o.p1 o.x.fd.length o.c1)
 b5:W.cell? ⟨g,5,none⟩=some (.slice o.p2 o.su.length o.c2)
 b6:W.cell? ⟨g,6,none⟩=some (.slice o.p3 o.un.length o.c3)
 o0:W.cell? ⟨g+1,0,none⟩=some (.slice p c.l.length q)
 o1:W.cell? ⟨g+1,1,none⟩=some (.int .i64 c.a)
 o2:W.cell? ⟨g+1,2,none⟩=some (.int .i64 c.b)
 o3:W.cell? ⟨g+1,3,none⟩=some (.int .i64 c.c)
 th:zQ_ W (g+2) 7
 fz:W.frozen? ⟨g,3,none⟩=false
 lt:g+2 < W.heap.size
theorem SB.next {c:Cl} (h:SB W g o c p q) (hb:Below W.heap.size W W'):SB W' g o c p q:=by
 have l0:g < W.heap.size:=by have:=h.lt; omega
 have l1:g+1 < W.heap.size:=by have:=h.lt; omega
 exact ⟨za_ hb h.b0 l0,za_ hb h.b1 l0,za_ hb h.b2 l0,za_ hb h.b3 l0,za_ hb h.b4 l0,za_ hb h.b5 l0,za_ hb h.b6 l0,za_ hb h.o0 l1,za_ hb h.o1 l1,za_ hb h.o2 l1,za_ hb h.o3 l1,h.th.next hb h.lt,zf_ hb h.fz l0,Nat.lt_of_lt_of_le h.lt hb.size⟩
theorem SB.gro {c:Cl} (h:SB W g o c p q) (hg:Gro W W' u u') (hu:∀ k,u.ownBlock=some k->g+3<=k):SB W' g o c p q:=by
 have n0:∀ i,i < 3->u.ownBlock≠some (g+i):=fun i hi e=>by have:=hu _ e; omega
 have l0:g < W.heap.size:=by have:=h.lt; omega
 have fz:∀ i b,i < 3->W.frozen? ⟨g+i,b,none⟩=false->W'.frozen? ⟨g+i,b,none⟩=false:=fun i b hi hf=>by
  rw [World.frozen?_of_block (w:=W) (hg.grown.block (g+i) (by have:=h.lt; omega) (fun e=>n0 i hi e.symm))];exact hf
 refine ⟨hg.cell h.b0 (n0 0 (by omega)),hg.cell h.b1 (n0 0 (by omega)),hg.cell h.b2 (n0 0 (by omega)),hg.cell h.b3 (n0 0 (by omega)),hg.cell h.b4 (n0 0 (by omega)),hg.cell h.b5 (n0 0 (by omega)),hg.cell h.b6 (n0 0 (by omega)),hg.cell h.o0 (n0 1 (by omega)),hg.cell h.o1 (n0 1 (by omega)),hg.cell h.o2 (n0 1 (by omega)),hg.cell h.o3 (n0 1 (by omega)),fun j hj=>⟨?_,fz 2 j (by omega) (h.th j hj).2⟩,fz 0 3 (by omega) h.fz,Nat.lt_of_lt_of_le h.lt hg.size⟩;obtain ⟨v,hv⟩:=isx (h.th j hj).1;rw [hg.cell hv (n0 2 (by omega))];rfl
theorem nn_ {c:Cl}:SB (((w.alloc (.cells (nL o).toArray 29)).alloc (.cells #[.slice p c.l.length q,.int .i64 c.a,.int .i64 c.b,.int .i64 c.c] 37)).alloc (.cells nZ.toArray 29)) w.heap.size o c p q:=by
 refine ⟨by go_simp,by go_simp,by go_simp,by go_simp,by go_simp,by go_simp,by go_simp,by go_simp,by go_simp,by go_simp,by go_simp,fun j hj=>?_,by go_simp,by first | (simp; done) | (simp; omega)⟩;have hj':j=0∨j=1∨j=2∨j=3∨j=4∨j=5∨j=6:=by omega
 rcases hj' with rfl | rfl | rfl | rfl | rfl | rfl | rfl <;> exact ⟨by go_simp,by go_simp⟩
def SetP (lo:Nat) (w:World) (o:No) (c:Cl) (p:Option Addr) (q:Nat) (e:Ending) (w':World):Prop:=∃ p' c',e=.returned (.agg #[.int .i64 o.x.id,.int .i64 o.x.n,.int .i64 o.x.cut,.slice p' (setM ⟨c,p,q⟩ o.ms).length c',.slice o.p1 o.x.fd.length o.c1,.slice o.p2 o.su.length o.c2,.slice o.p3 o.un.length o.c3])∧NoR lo w' { o with x:={ o.x with cs:=setC c o.x.cs },ms:=setM ⟨c,p,q⟩ o.ms,p0:=p',c0:=c' }∧GRow w.heap.size w' p' (zp_ (setM ⟨c,p,q⟩ o.ms))∧(setM ⟨c,p,q⟩ o.ms).length<=c'∧Below w.heap.size w w'
theorem tD_ {c:Cl} {m:Nat} (h:NoR lo w o) (hr:GRow lo w p (flat c.l)) (hq:c.l.length<=q) (hB:Below w.heap.size w w') (hm:m=(setM ⟨c,p,q⟩ o.ms).length) (hc:m<=c') (hlo:lo<=w.heap.size) (hg:GRow w.heap.size w' p' (zp_ (setM ⟨c,p,q⟩ o.ms))) :
  SetP lo w o c p q (.returned (.agg #[.int .i64 o.x.id,.int .i64 o.x.n,.int .i64 o.x.cut,.slice p' m c',.slice o.p1 o.x.fd.length o.c1,.slice o.p2 o.su.length o.c2,.slice o.p3 o.un.length o.c3])) w':=by
 subst hm;refine ⟨p',c',rfl,⟨?_,hg.weak hlo,(h.next hB).r1,(h.next hB).r2,(h.next hB).r3,fun x hx=>?_,hc,h.le.2⟩,hg,hc,hB⟩
 ·show setC c o.x.cs=_
  rw [xn_,h.cs]
 ·rcases yd_ hx with rfl | hx
  ·exact ⟨hr.next hB,hq⟩
  ·exact (h.next hB).rs x hx
theorem zt_ (h:Below w.heap.size w W) (hg:w.heap.size<=g):Below w.heap.size w (W.setCell ⟨g,i,none⟩ u):=h.setCell (by simpa using hg) _
theorem sv_ {size:Nat} (h:OwnG W e size (.slice vo n vc) n xs lo) (hs:∃ k,(Value.slice vo n vc).ownBlock=some k):∃ g,vo=some ⟨g,0,none⟩:=by
 rcases h.own.2 with ⟨h',_⟩ | ⟨g,cap,cur,h',_⟩
 ·obtain ⟨k,hk⟩:=hs;rw [h'] at hk;exact absurd hk Gro.none_ne
 ·cases h';exact ⟨g,rfl⟩
theorem r5_ {size:Nat} (h:OwnG W e size (.slice vo n vc) n xs lo):n<=vc:=by
 obtain ⟨p,c,e,hc,_⟩:=h.grow;cases e;exact hc
theorem p3_ {ms:List Cm} (h:OwnG W e 5 (.slice (some ⟨g,0,none⟩) n vc) n (zp_ ms) lo):∀ i (h:i < ms.length),CmAt W g (0+i * 5) ms[i]:=by
 obtain ⟨p,c,e,hc,hg⟩:=h.grow;cases e;rcases hg.cm with h' | ⟨b,off,e,_,h2⟩
 ·intro i hi; rw [h'] at hi; simp at hi
 ·cases e;exact h2
theorem w4_ {size:Nat} (h:OwnG W e size (.slice (some ⟨g,0,none⟩) n vc) n xs lo):zQ_ W g (vc * size):=by
 rcases h.own.2 with ⟨h',_⟩ | ⟨g',cap,cur,h',_,hh,_,_,hcs,_⟩
 ·cases h'
 ·cases h';intro j hj;refine ⟨?_,?_⟩
  ·simp [World.cell?,hh]; omega
  ·simp [World.frozen?,hh]
theorem wy_:∀ (ms:List Cm) (i:Nat),(zp_ ms).take (i * 5)=zp_ (ms.take i)
 | ms,0=>by simp [zp_]
 | [],i+1=>by simp [zp_]
 | m :: ms,i+1=>by
  rw [show (i+1) * 5=i * 5+5 by omega];simp [zp_,wy_ ms i]
theorem wz_:∀ (ms:List Cm) (i:Nat),(zp_ ms).drop (i * 5)=zp_ (ms.drop i)
 | ms,0=>by simp
 | [],i+1=>by simp [zp_]
 | m :: ms,i+1=>by
  rw [show (i+1) * 5=i * 5+5 by omega];simp [zp_,wz_ ms i]
theorem tj_ {ms:List Cm} (h:OwnG W e 5 (.slice (some ⟨g,0,none⟩) ms.length vc) ms.length (zp_ ms) lo) (hi:i<=ms.length):GRow 0 W (if vc=i then some ⟨g,0,none⟩ else some ⟨g,i * 5,none⟩) (zp_ (ms.drop i)):=by
 obtain ⟨p,c,e',hc,hg⟩:=h.grow;cases e';by_cases e:vc=i
 ·rw [if_pos e]
  have:ms.drop i=[]:=List.drop_eq_nil_of_le (by omega)
  rw [this];exact .inl rfl
 ·rw [if_neg e];rcases hg with h' | ⟨b,off,e',_,h3⟩
  ·left;rw [<- wz_,h'];simp
  ·cases e';refine .inr ⟨g,i * 5,rfl,Nat.zero_le _,fun j hj=>?_⟩
   have hl:i * 5+j < (zp_ ms).length:=by
    rw [yP_] at hj ⊢;simp at hj;omega
   have:=h3 (i * 5+j) hl
   rw [Nat.zero_add] at this;rw [this]
   congr 1
   simp [<- wz_]
theorem sp_ {x:Cm}:∀ {ms:List Cm} {i:Nat},i < ms.length->ms.set i x=ms.take i++x :: ms.drop (i+1)
 | m :: ms,0,_=>by simp
 | m :: ms,i+1,h=>by simp [sp_ (x:=x) (ms:=ms) (i:=i) (by simpa using h)]
theorem nR_ {ms:List Cm} {m:Cm} (hi:i < ms.length) (th:zQ_ W g n) (hn:i * 5+4 < n) (h:∀ j (h:j < ms.length),CmAt W g (0+j * 5) ms[j]) :
  ∀ j (h:j < (ms.set i m).length),CmAt (((((W.setCell ⟨g,i * 5,none⟩ (.string m.c.k)).setCell ⟨g,i * 5+1,none⟩ (.slice m.p m.c.l.length m.q)).setCell ⟨g,i * 5+2,none⟩ (.int .i64 m.c.a)).setCell ⟨g,i * 5+3,none⟩ (.int .i64 m.c.b)).setCell ⟨g,i * 5+4,none⟩ (.int .i64 m.c.c)) g (0+j * 5) (ms.set i m)[j]:=by
 intro j hj;rw [Nat.zero_add];by_cases e:i=j
 ·subst e;rw [List.getElem_set_self];refine ⟨?_,?_,?_,?_,?_⟩
  ·rw [zo_ (by omega),zo_ (by omega),zo_ (by omega),zo_ (by omega)]; exact zB_ (th _ (by omega)).1
  ·rw [zo_ (by omega),zo_ (by omega),zo_ (by omega)]; exact zB_ (th.set _ (by omega)).1
  ·rw [zo_ (by omega),zo_ (by omega)]; exact zB_ (th.set.set _ (by omega)).1
  ·rw [zo_ (by omega)]; exact zB_ (th.set.set.set _ (by omega)).1
  ·exact zB_ (th.set.set.set.set _ (by omega)).1
 ·rw [List.getElem_set_ne e];obtain ⟨c0,c1,c2,c3,c4⟩:=h j (by simpa using hj);rw [Nat.zero_add] at c0 c1 c2 c3 c4;refine ⟨?_,?_,?_,?_,?_⟩ <;> (rw [zo_ (by omega),zo_ (by omega),zo_ (by omega),zo_ (by omega),zo_ (by omega)]; assumption)
theorem wL_ (lo:Nat) (o:No) (c:Cl) (p:Option Addr) (q:Nat) (w:World) (hlo:lo<=w.heap.size) (hm:o.ms.length<=100000) (h0:NoR lo w o) (hr0:GRow lo w p (flat c.l)) (hq0:c.l.length<=q) :
  Calls Tryz.prog 104 #[nV o,.string c.k,.agg #[.slice p c.l.length q,.int .i64 c.a,.int .i64 c.b,.int .i64 c.c]] w fun e w'=>SetP lo w o c p q e w':=by
 (try unfold nV);have h:Hid (NoR lo w o):=h0;have HR:=hm_ hr0;have HQ:Hid (c.l.length<=q):=hq0;have HLO:=hm_ hlo;clear h0 hr0 hq0 hlo;have SB0:Hid (SB (((w.alloc (.cells (nL o).toArray 29)).alloc (.cells #[.slice p c.l.length q,.int .i64 c.a,.int .i64 c.b,.int .i64 c.c] 37)).alloc (.cells nZ.toArray 29)) w.heap.size o c p q):=nn_;have B0:Hid (Below w.heap.size w (((w.alloc (.cells (nL o).toArray 29)).alloc (.cells #[.slice p c.l.length q,.int .i64 c.a,.int .i64 c.b,.int .i64 c.c] 37)).alloc (.cells nZ.toArray 29))):=((zb_ _ _).trans ((zb_ _ _).mono (by simp))).trans ((zb_ _ _).mono (by first | (simp; done) | (simp; omega)));have SRC:Hid (GRow lo ((((w.alloc (.cells (nL o).toArray 29)).alloc (.cells #[.slice p c.l.length q,.int .i64 c.a,.int .i64 c.b,.int .i64 c.c] 37)).alloc (.cells nZ.toArray 29)).alloc (.cells #[] 91)) o.p0 (zp_ o.ms)):=h.out.r0.next (B0.out.trans ((zb_ _ _).mono B0.out.size));have OL:Hid (OwnG ((((w.alloc (.cells (nL o).toArray 29)).alloc (.cells #[.slice p c.l.length q,.int .i64 c.a,.int .i64 c.b,.int .i64 c.c] 37)).alloc (.cells nZ.toArray 29)).alloc (.cells #[] 91)) 91 5 (.slice (some ⟨(((w.alloc (.cells (nL o).toArray 29)).alloc (.cells #[.slice p c.l.length q,.int .i64 c.a,.int .i64 c.b,.int .i64 c.c] 37)).alloc (.cells nZ.toArray 29)).heap.size,0,none⟩) 0 0) 0 [] (w.heap.size+3)):=OwnG.lit (by first | (simp; done) | (simp; omega));go_enter Tryz.func104,Tryz.ntmps104;go_upto_region 1 with fail;generalize hW0:(((w.alloc (.cells (nL o).toArray 29)).alloc (.cells #[.slice p c.l.length q,.int .i64 c.a,.int .i64 c.b,.int .i64 c.c] 37)).alloc (.cells nZ.toArray 29))=W0 at *;have hs0:Hid (w.heap.size+3<=W0.heap.size):=by show _<=_; have:=SB0.out.lt; omega
 clear hW0;have c3:=fun ob=>zj_ (o:=ob) SB0.out.b3 (by have:=SB0.out.lt; omega)
 go_upto_region 2 with (first | (at_builtin; refine yt_ elC rfl _ _ rfl (.slice (some ⟨W0.heap.size,0,none⟩) 0 0) 0 [] (w.heap.size+3) o.ms.length rfl OL.out ?_ o.p0 o.ms.length o.c0 (zp_ o.ms) rfl ?_ (ya_ _) lo SRC.out ?_ ?_ ?_; rotate_left 4; intro vo vc w1 hO1 hG1 hS1))
 case refine_1=>have:=hs0.out; first | (simp; done) | (simp; omega)
 case refine_2=>exact yP_ _
 case refine_3=>omega
 case refine_4=>omega
 obtain ⟨g,hg0⟩:=sv_ hO1 (hS1 _ rfl);subst hg0
 have hO:Hid (OwnG w1 91 5 (.slice (some ⟨g,0,none⟩) o.ms.length vc) o.ms.length (zp_ o.ms) (w.heap.size+3)):=by
  show OwnG _ _ _ _ _ _ _
  simpa using hO1
 have hU:∀ k,(Value.slice (some ⟨W0.heap.size,0,none⟩) 0 0).ownBlock=some k->w.heap.size+3<=k:=fun k hk=>by
  simp [Value.ownBlock] at hk
  have:=hs0.out
  omega
 have S1:Hid (SB w1 w.heap.size o c p q):=(SB0.out.next (zb_ _ _)).gro hG1 hU;have B1:Hid (Below w.heap.size w w1):=(B0.out.trans ((zb_ _ _).mono B0.out.size)).trans (hG1.below (by have:=B0.out.size; simp; omega) (fun k hk=>by have:=hU k hk; omega));have hgl:Hid (w.heap.size+3<=g∧g < w1.heap.size):=hO.out.lt g rfl;have hcap:o.ms.length<=vc:=r5_ hO.out;have CM:Hid (∀ i (h:i < o.ms.length),CmAt w1 g (0+i * 5) o.ms[i]):=p3_ hO.out;clear hO1 hG1 hS1 hU SB0 B0 SRC OL hs0 c3;go_wp2;go_loopw [8] (fun s8 wr=>∃ i:Nat,i<=o.ms.length∧s8=.int .i64 i∧wr=w1∧∀ j (h:j < o.ms.length),j < i->kb o.ms[j].c.k < kb c.k) (fun s8 _=>o.ms.length - (intOf s8).toNat)
 case atStart=>exact ⟨0,by omega,rfl,rfl,fun j h h'=>by omega⟩
 case round=>
  obtain ⟨i,hi,rfl,e1,hG0⟩:=hrel;subst e1;have hG:=hm_ hG0;clear hG0;have kk:(0:Int)<=(i:Int):=by omega
  by_cases hil:i < o.ms.length
  ·have hil':(i:Int) < (o.ms.length:Int):=by omega
   obtain ⟨x0,x1,x2,x3,x4⟩:=CM.out i hil;clear x1 x2 x3 x4;rw [Nat.zero_add] at x0;by_cases e:kb o.ms[i].c.k < kb c.k
   ·have E:=o7_ e
    have hG1:Hid (∀ j (h:j < o.ms.length),j < i+1->kb o.ms[j].c.k < kb c.k):=fun j h h3=>by
     by_cases e2:j=i
     ·subst e2; exact e
     ·exact hG.out j h (by omega)
    clear e;go_wp2
    go_roundw
    case rel=>exact ⟨i+1,by omega,by go_num,by first | rfl | trivial,hG1.out⟩
    case measure=>simp [intOf]; omega
   ·have E:=o8_ e;have AT:=tE_ o.ms ⟨c,p,q⟩ i hi hG.out (fun _=>e);by_cases e2:o.ms[i].c.k=c.k
    ·have E2:=pX_ e2;have HS:Hid (setM ⟨c,p,q⟩ o.ms=o.ms.set i ⟨c,p,q⟩):=(AT.1 ⟨hil,e2⟩).trans (sp_ hil).symm;clear AT e e2;obtain ⟨b0,b1,b2,b3,b4,b5,b6,o0,o1,o2,o3,th,fz,hz⟩:=S1.out;have TH:Hid (zQ_ wr g (vc * 5)):=w4_ hO.out;have CM2:Hid (∀ j (h:j < o.ms.length),CmAt wr g (0+j * 5) o.ms[j]):=CM.out;obtain ⟨z0,Z0⟩:=isx (TH.out (i * 5) (by omega)).1;have y0:=(TH.out (i * 5) (by omega)).2;obtain ⟨z1,Z1⟩:=isx (TH.out (i * 5+1) (by omega)).1;have y1:=(TH.out (i * 5+1) (by omega)).2;obtain ⟨z2,Z2⟩:=isx (TH.out (i * 5+2) (by omega)).1;have y2:=(TH.out (i * 5+2) (by omega)).2;obtain ⟨z3,Z3⟩:=isx (TH.out (i * 5+3) (by omega)).1;have y3:=(TH.out (i * 5+3) (by omega)).2;obtain ⟨z4,Z4⟩:=isx (TH.out (i * 5+4) (by omega)).1;have y4:=(TH.out (i * 5+4) (by omega)).2;obtain ⟨t0,T0⟩:=isx (th 0 (by omega)).1;have s0:=(th 0 (by omega)).2;obtain ⟨t1,T1⟩:=isx (th 1 (by omega)).1;have s1:=(th 1 (by omega)).2;obtain ⟨t2,T2⟩:=isx (th 2 (by omega)).1;have s2:=(th 2 (by omega)).2;obtain ⟨t3,T3⟩:=isx (th 3 (by omega)).1;have s3:=(th 3 (by omega)).2;obtain ⟨t4,T4⟩:=isx (th 4 (by omega)).1;have s4:=(th 4 (by omega)).2;obtain ⟨t5,T5⟩:=isx (th 5 (by omega)).1;have s5:=(th 5 (by omega)).2;obtain ⟨t6,T6⟩:=isx (th 6 (by omega)).1;have s6:=(th 6 (by omega)).2;have n1:g≠w.heap.size:=by have:=hgl.out; omega
     have n2:g≠w.heap.size+2:=by have:=hgl.out; omega
     have n1':w.heap.size≠g:=by have:=hgl.out; omega
     have n2':w.heap.size+2≠g:=by have:=hgl.out; omega
     clear th CM TH;go_wp2;refine bodyPost_ret (v:=.agg #[.int .i64 o.x.id,.int .i64 o.x.n,.int .i64 o.x.cut,.slice (some ⟨g,0,none⟩) o.ms.length vc,.slice o.p1 o.x.fd.length o.c1,.slice o.p2 o.su.length o.c2,.slice o.p3 o.un.length o.c3]) (by simp [results,Tryz.results104,go_sem, *]) rfl ?_;refine tD_ h.out HR.out HQ.out ?_ (by rw [HS.out,List.length_set]) hcap HLO.out ?_
     ·repeat (refine zt_ ?_ (by have:=hgl.out; omega))
      exact B1.out
     ·rw [HS.out];refine GRow.weak ?_ (show w.heap.size<=w.heap.size+3 by omega);refine GRow.keep ?_ (zc_ (by omega));refine GRow.keep ?_ (zc_ (by omega));refine GRow.keep ?_ (zc_ (by omega));refine GRow.keep ?_ (zc_ (by omega));refine GRow.keep ?_ (zc_ (by omega));refine GRow.keep ?_ (zc_ (by omega));refine GRow.keep ?_ (zc_ (by omega));refine GRow.keep ?_ (zc_ (by omega));exact .inr ⟨g,0,rfl,hgl.out.1,qP_ _ 0 (nR_ hil (w4_ hO.out) (by omega) CM2.out)⟩
    ·have E2:=ni_ e2;have HS:Hid (setM ⟨c,p,q⟩ o.ms=o.ms.take i++⟨c,p,q⟩ :: o.ms.drop i):=AT.2 (fun _=>e2);clear AT e e2;have hin:(i:Int)<=(o.ms.length:Int):=by omega
     have hic:i<=vc:=by omega
     have hic':(i:Int)<=(vc:Int):=by omega
     have OLt:Hid (OwnG (wr.alloc (.cells #[] 91)) 91 5 (.slice (some ⟨wr.heap.size,0,none⟩) 0 0) 0 [] wr.heap.size):=OwnG.lit (Nat.le_refl _);have hv:¬ vc=i:=by omega
     have SRCD:Hid (GRow 0 (wr.alloc (.cells #[] 91)) (some ⟨g,i * 5,none⟩) (zp_ (o.ms.drop i))):=by have:=tj_ (hO.out.next (zb_ _ (.cells #[] 91))) hi; rw [if_neg hv] at this; exact this
     go_upto_region 8 with (first | (at_builtin; refine yt_ elC rfl _ _ rfl (.slice (some ⟨wr.heap.size,0,none⟩) 0 0) 0 [] wr.heap.size (o.ms.length - i) rfl OLt.out (by simp) _ _ _ (zp_ (o.ms.drop i)) rfl (by rw [yP_,List.length_drop]) (ya_ _) 0 SRCD.out (by omega) (by omega) ?_; intro vt ct w2 hO2 hG2 hS2));have hne2:∀ k,(Value.slice (some ⟨wr.heap.size,0,none⟩) 0 0).ownBlock=some k->k=wr.heap.size:=fun k hk=>by simp [Value.ownBlock] at hk; omega
     have hU2:∀ k,(Value.slice (some ⟨wr.heap.size,0,none⟩) 0 0).ownBlock=some k->w.heap.size+3<=k:=fun k hk=>by have:=hne2 k hk; have:=S1.out.lt; omega
     have S2:Hid (SB w2 w.heap.size o c p q):=(S1.out.next (zb_ _ _)).gro hG2 hU2;have B2:Hid (Below w.heap.size w w2):=(B1.out.trans ((zb_ _ _).mono B1.out.size)).trans (hG2.below (by have:=B1.out.size; simp; omega) (fun k hk=>by have:=hU2 k hk; omega))
     have OP2:Hid (OwnG w2 91 5 (.slice (some ⟨g,0,none⟩) i vc) i (zp_ (o.ms.take i)) (w.heap.size+3)):=by
      have:=((hO.out.next (zb_ _ _)).apart (fun k hk e=>by have:=hne2 k e; simp [Value.ownBlock] at hk; have:=hgl.out; omega) hG2).pre hi
      rw [wy_] at this;exact this
     have GT:Hid (GRow wr.heap.size w2 vt (zp_ (o.ms.drop i))):=by
      obtain ⟨p',c',e',_,hgg⟩:=hO2.grow;cases e';show GRow _ _ _ _
      simpa using hgg
     have hw2:Hid (wr.heap.size<=w2.heap.size):=by have:=hG2.size; show _<=_; simp at this; omega
     have LR:Hid (GRow 0 (w2.drew.alloc (.cells #[.string c.k,.slice p c.l.length q,.int .i64 c.a,.int .i64 c.b,.int .i64 c.c] 91)) (some ⟨w2.heap.size,0,none⟩) (zp_ [⟨c,p,q⟩])):=.inr ⟨w2.heap.size,0,rfl,Nat.zero_le _,fun j hj=>by
      have hj':j=0∨j=1∨j=2∨j=3∨j=4:=by simp [zp_] at hj; omega
      rcases hj' with rfl | rfl | rfl | rfl | rfl <;> (simp [zp_]; go_simp)⟩
     have hng:∀ b,b < w.heap.size+3->(Value.slice (some ⟨g,0,none⟩) i vc).ownBlock≠some b:=fun b hb e=>by simp [Value.ownBlock] at e; have:=hgl.out; omega
     obtain ⟨u0,u1,u2,u3⟩:w2.cell? ⟨w.heap.size+1,0,none⟩=some (.slice p c.l.length q)∧w2.cell? ⟨w.heap.size+1,1,none⟩=some (.int .i64 c.a)∧w2.cell? ⟨w.heap.size+1,2,none⟩=some (.int .i64 c.b)∧w2.cell? ⟨w.heap.size+1,3,none⟩=some (.int .i64 c.c):=⟨S2.out.o0,S2.out.o1,S2.out.o2,S2.out.o3⟩;clear hO2 hG2 hS2 hne2 hU2 SRCD OLt
     skip
     refine wp_region_held_drew (S:=(fun w'=>w'.cell? ⟨w.heap.size+1,0,none⟩=some (.slice p c.l.length q)∧w'.cell? ⟨w.heap.size+1,1,none⟩=some (.int .i64 c.a)∧w'.cell? ⟨w.heap.size+1,2,none⟩=some (.int .i64 c.b)∧w'.cell? ⟨w.heap.size+1,3,none⟩=some (.int .i64 c.c))) (by kernel_rfl) ?_ (fun hH=>?_)
     ·(try dsimp only);exact ⟨u0,u1,u2,u3⟩
     refine wTk 0 ?_;refine wTk 1 ?_;refine wTk 2 ?_;refine wTk 3 ?_;refine wTk 4 ?_;refine wTk 5 ?_;refine wTk 8 ?_;refine wRd 6 (fun K hK=>?_);go_simp;(try simp only []);refine wHk hK (⟨zj_ hH.1 (zh_ (x:=⟨w.heap.size+1,0,none⟩) hH.1),zj_ hH.2.1 (zh_ (x:=⟨w.heap.size+1,1,none⟩) hH.2.1),zj_ hH.2.2.1 (zh_ (x:=⟨w.heap.size+1,2,none⟩) hH.2.2.1),zj_ hH.2.2.2 (zh_ (x:=⟨w.heap.size+1,3,none⟩) hH.2.2.2)⟩) ?_;clear hK K hH;intro hH;refine wRd 7 (fun K hK=>?_);rw [if_pos (by rfl)];refine zx_ elC (.tmp 55) (.tmp 59) rfl (.slice (some ⟨g,0,none⟩) i vc) i (zp_ (o.ms.take i)) (w.heap.size+3) (i+1) rfl ((OP2.out.next (zd_ _)).next (zb_ _ _)) (by have:=S2.out.lt; first | (simp; omega) | omega) (some ⟨w2.heap.size,0,none⟩) 1 1 (zp_ [⟨c,p,q⟩]) rfl rfl (ya_ _) 0 LR.out (by omega) rfl ?_;intro v4 c4 w4 hO4 hG4 hS4;refine wHk hK (⟨hG4.cell hH.1 (hng _ (by omega)),hG4.cell hH.2.1 (hng _ (by omega)),hG4.cell hH.2.2.1 (hng _ (by omega)),hG4.cell hH.2.2.2 (hng _ (by omega))⟩) ?_;clear hK K hH;intro hH;have S4:Hid (SB w4 w.heap.size o c p q):=((S2.out.next (zd_ _)).next (zb_ _ (.cells #[.string c.k,.slice p c.l.length q,.int .i64 c.a,.int .i64 c.b,.int .i64 c.c] 91))).gro hG4 (fun k hk=>by have:=hng k; rcases Nat.lt_or_ge k (w.heap.size+3) with h' | h'; exact absurd hk (this h'); exact h');have B4:Hid (Below w.heap.size w w4):=((B2.out.trans ((zd_ _).mono B2.out.size)).trans ((zb_ _ (.cells #[.string c.k,.slice p c.l.length q,.int .i64 c.a,.int .i64 c.b,.int .i64 c.c] 91)).mono B2.out.size)).trans (hG4.below (by have:=B2.out.size; simp; omega) (fun k hk=>by have:=hng k; rcases Nat.lt_or_ge k (w.heap.size+3) with h' | h'; exact absurd hk (this h'); omega));have GT4:Hid (GRow wr.heap.size w4 vt (zp_ (o.ms.drop i))):=((GT.out.next (zd_ _)).next (zb_ _ (.cells #[.string c.k,.slice p c.l.length q,.int .i64 c.a,.int .i64 c.b,.int .i64 c.c] 91))).keep (sO_ hG4 (fun k hk=>by simp [Value.ownBlock] at hk; have:=hgl.out; omega));have O4:=hm_ hO4;clear hO4 hG4 hS4;refine wRd 9 (fun K hK=>?_);rw [if_pos (by rfl)];refine zx_ elC (.tmp 60) (.tmp 61) rfl (.slice v4 (i+1) c4) (i+1) (zp_ (o.ms.take i)++zp_ [⟨c,p,q⟩]) (w.heap.size+3) (i+1+(o.ms.length - i)) rfl O4.out (by have:=S4.out.lt; omega) vt (o.ms.length - i) ct (zp_ (o.ms.drop i)) rfl (by rw [yP_,List.length_drop]) (ya_ _) wr.heap.size GT4.out (by omega) rfl ?_;intro v5 c5 w5 hO5 hG5 hS5;refine wHk hK (⟨hG5.cell hH.1 (fun e=>by have:=O4.out.ge _ e; omega),hG5.cell hH.2.1 (fun e=>by have:=O4.out.ge _ e; omega),hG5.cell hH.2.2.1 (fun e=>by have:=O4.out.ge _ e; omega),hG5.cell hH.2.2.2 (fun e=>by have:=O4.out.ge _ e; omega)⟩) ?_;clear hK K hH;intro hH;have S5:Hid (SB w5 w.heap.size o c p q):=S4.out.gro hG5 O4.out.ge;have B5:Hid (Below w.heap.size w w5):=B4.out.trans (hG5.below B4.out.size (fun k hk=>by have:=O4.out.ge k hk; omega));have O5:=hm_ hO5;clear hO5 hG5 hS5;refine wTk 10 ?_;refine wDn ?_;clear hH u0 u1 u2 u3 S1 S2 S4 O4 OP2 GT GT4 LR B1 B2 B4 hng;obtain ⟨b0,b1,b2,b3,b4,b5,b6,o0,o1,o2,o3,th,fz,hz⟩:=S5.out;obtain ⟨t0,T0⟩:=isx (th 0 (by omega)).1;have s0:=(th 0 (by omega)).2;obtain ⟨t1,T1⟩:=isx (th 1 (by omega)).1;have s1:=(th 1 (by omega)).2;obtain ⟨t2,T2⟩:=isx (th 2 (by omega)).1;have s2:=(th 2 (by omega)).2;obtain ⟨t3,T3⟩:=isx (th 3 (by omega)).1;have s3:=(th 3 (by omega)).2;obtain ⟨t4,T4⟩:=isx (th 4 (by omega)).1;have s4:=(th 4 (by omega)).2;obtain ⟨t5,T5⟩:=isx (th 5 (by omega)).1;have s5:=(th 5 (by omega)).2;obtain ⟨t6,T6⟩:=isx (th 6 (by omega)).1;have s6:=(th 6 (by omega)).2;clear th;go_wp2;refine bodyPost_ret (v:=.agg #[.int .i64 o.x.id,.int .i64 o.x.n,.int .i64 o.x.cut,.slice v5 (i+1+(o.ms.length - i)) c5,.slice o.p1 o.x.fd.length o.c1,.slice o.p2 o.su.length o.c2,.slice o.p3 o.un.length o.c3]) (by simp [results,Tryz.results104,go_sem, *]) rfl ?_;obtain ⟨pp,cc,ee,hcc,hgg⟩:=O5.out.grow;cases ee;refine tD_ h.out HR.out HQ.out ?_ (by rw [HS.out]; simp; omega) hcc HLO.out ?_
     ·repeat (refine zt_ ?_ (by omega))
      exact B5.out
     ·rw [HS.out];refine GRow.weak ?_ (show w.heap.size<=w.heap.size+3 by omega);refine GRow.keep ?_ (zc_ (by omega));refine GRow.keep ?_ (zc_ (by omega));refine GRow.keep ?_ (zc_ (by omega));refine GRow.keep ?_ (zc_ (by omega));refine GRow.keep ?_ (zc_ (by omega));refine GRow.keep ?_ (zc_ (by omega));refine GRow.keep ?_ (zc_ (by omega));refine GRow.keep ?_ (zc_ (by omega));rw [show zp_ (o.ms.take i++⟨c,p,q⟩ :: o.ms.drop i)=(zp_ (o.ms.take i)++zp_ [⟨c,p,q⟩])++zp_ (o.ms.drop i) by rw [<- yQ_,<- yQ_]; simp];exact hgg
  ·have hil':¬ (i:Int) < (o.ms.length:Int):=by omega
   have HS:Hid (setM ⟨c,p,q⟩ o.ms=o.ms.take i++⟨c,p,q⟩ :: o.ms.drop i):=(tE_ o.ms ⟨c,p,q⟩ i hi hG.out (fun h=>absurd h hil)).2 (fun h=>absurd h hil);have hin:(i:Int)<=(o.ms.length:Int):=by omega
   have hic:i<=vc:=by omega
   have hic':(i:Int)<=(vc:Int):=by omega
   have OLt:Hid (OwnG (wr.alloc (.cells #[] 91)) 91 5 (.slice (some ⟨wr.heap.size,0,none⟩) 0 0) 0 [] wr.heap.size):=OwnG.lit (Nat.le_refl _);have hv0:=hi;have SRCD:Hid (GRow 0 (wr.alloc (.cells #[] 91)) (if vc=i then some ⟨g,0,none⟩ else some ⟨g,i * 5,none⟩) (zp_ (o.ms.drop i))):=tj_ (hO.out.next (zb_ _ _)) hi;go_upto_region 8 with (first | (at_builtin; refine yt_ elC rfl _ _ rfl (.slice (some ⟨wr.heap.size,0,none⟩) 0 0) 0 [] wr.heap.size (o.ms.length - i) rfl OLt.out (by simp) _ _ _ (zp_ (o.ms.drop i)) rfl (by rw [yP_,List.length_drop]) (ya_ _) 0 SRCD.out (by omega) (by omega) ?_; intro vt ct w2 hO2 hG2 hS2));have hne2:∀ k,(Value.slice (some ⟨wr.heap.size,0,none⟩) 0 0).ownBlock=some k->k=wr.heap.size:=fun k hk=>by simp [Value.ownBlock] at hk; omega
   have hU2:∀ k,(Value.slice (some ⟨wr.heap.size,0,none⟩) 0 0).ownBlock=some k->w.heap.size+3<=k:=fun k hk=>by have:=hne2 k hk; have:=S1.out.lt; omega
   have S2:Hid (SB w2 w.heap.size o c p q):=(S1.out.next (zb_ _ _)).gro hG2 hU2;have B2:Hid (Below w.heap.size w w2):=(B1.out.trans ((zb_ _ _).mono B1.out.size)).trans (hG2.below (by have:=B1.out.size; simp; omega) (fun k hk=>by have:=hU2 k hk; omega))
   have OP2:Hid (OwnG w2 91 5 (.slice (some ⟨g,0,none⟩) i vc) i (zp_ (o.ms.take i)) (w.heap.size+3)):=by
    have:=((hO.out.next (zb_ _ _)).apart (fun k hk e=>by have:=hne2 k e; simp [Value.ownBlock] at hk; have:=hgl.out; omega) hG2).pre hi
    rw [wy_] at this;exact this
   have GT:Hid (GRow wr.heap.size w2 vt (zp_ (o.ms.drop i))):=by
    obtain ⟨p',c',e',_,hgg⟩:=hO2.grow;cases e';show GRow _ _ _ _
    simpa using hgg
   have hw2:Hid (wr.heap.size<=w2.heap.size):=by have:=hG2.size; show _<=_; simp at this; omega
   have LR:Hid (GRow 0 (w2.drew.alloc (.cells #[.string c.k,.slice p c.l.length q,.int .i64 c.a,.int .i64 c.b,.int .i64 c.c] 91)) (some ⟨w2.heap.size,0,none⟩) (zp_ [⟨c,p,q⟩])):=.inr ⟨w2.heap.size,0,rfl,Nat.zero_le _,fun j hj=>by
    have hj':j=0∨j=1∨j=2∨j=3∨j=4:=by simp [zp_] at hj; omega
    rcases hj' with rfl | rfl | rfl | rfl | rfl <;> (simp [zp_]; go_simp)⟩
   have hng:∀ b,b < w.heap.size+3->(Value.slice (some ⟨g,0,none⟩) i vc).ownBlock≠some b:=fun b hb e=>by simp [Value.ownBlock] at e; have:=hgl.out; omega
   obtain ⟨u0,u1,u2,u3⟩:w2.cell? ⟨w.heap.size+1,0,none⟩=some (.slice p c.l.length q)∧w2.cell? ⟨w.heap.size+1,1,none⟩=some (.int .i64 c.a)∧w2.cell? ⟨w.heap.size+1,2,none⟩=some (.int .i64 c.b)∧w2.cell? ⟨w.heap.size+1,3,none⟩=some (.int .i64 c.c):=⟨S2.out.o0,S2.out.o1,S2.out.o2,S2.out.o3⟩;clear hO2 hG2 hS2 hne2 hU2 SRCD OLt;generalize (if vc=i then (some ⟨g,0,none⟩:Option Addr) else some ⟨g,i * 5,none⟩)=PT;refine wp_region_held_drew (S:=(fun w'=>w'.cell? ⟨w.heap.size+1,0,none⟩=some (.slice p c.l.length q)∧w'.cell? ⟨w.heap.size+1,1,none⟩=some (.int .i64 c.a)∧w'.cell? ⟨w.heap.size+1,2,none⟩=some (.int .i64 c.b)∧w'.cell? ⟨w.heap.size+1,3,none⟩=some (.int .i64 c.c))) (by kernel_rfl) ?_ (fun hH=>?_)
   ·(try dsimp only);exact ⟨u0,u1,u2,u3⟩
   refine wTk 0 ?_;refine wTk 1 ?_;refine wTk 2 ?_;refine wTk 3 ?_;refine wTk 4 ?_;refine wTk 5 ?_;refine wTk 8 ?_;refine wRd 6 (fun K hK=>?_);go_simp;(try simp only []);refine wHk hK (⟨zj_ hH.1 (zh_ (x:=⟨w.heap.size+1,0,none⟩) hH.1),zj_ hH.2.1 (zh_ (x:=⟨w.heap.size+1,1,none⟩) hH.2.1),zj_ hH.2.2.1 (zh_ (x:=⟨w.heap.size+1,2,none⟩) hH.2.2.1),zj_ hH.2.2.2 (zh_ (x:=⟨w.heap.size+1,3,none⟩) hH.2.2.2)⟩) ?_;clear hK K hH;intro hH;refine wRd 7 (fun K hK=>?_);rw [if_pos (by rfl)];refine zx_ elC (.tmp 55) (.tmp 59) rfl (.slice (some ⟨g,0,none⟩) i vc) i (zp_ (o.ms.take i)) (w.heap.size+3) (i+1) rfl ((OP2.out.next (zd_ _)).next (zb_ _ _)) (by have:=S2.out.lt; first | (simp; omega) | omega) (some ⟨w2.heap.size,0,none⟩) 1 1 (zp_ [⟨c,p,q⟩]) rfl rfl (ya_ _) 0 LR.out (by omega) rfl ?_;intro v4 c4 w4 hO4 hG4 hS4;refine wHk hK (⟨hG4.cell hH.1 (hng _ (by omega)),hG4.cell hH.2.1 (hng _ (by omega)),hG4.cell hH.2.2.1 (hng _ (by omega)),hG4.cell hH.2.2.2 (hng _ (by omega))⟩) ?_;clear hK K hH;intro hH;have S4:Hid (SB w4 w.heap.size o c p q):=((S2.out.next (zd_ _)).next (zb_ _ (.cells #[.string c.k,.slice p c.l.length q,.int .i64 c.a,.int .i64 c.b,.int .i64 c.c] 91))).gro hG4 (fun k hk=>by have:=hng k; rcases Nat.lt_or_ge k (w.heap.size+3) with h' | h'; exact absurd hk (this h'); exact h');have B4:Hid (Below w.heap.size w w4):=((B2.out.trans ((zd_ _).mono B2.out.size)).trans ((zb_ _ (.cells #[.string c.k,.slice p c.l.length q,.int .i64 c.a,.int .i64 c.b,.int .i64 c.c] 91)).mono B2.out.size)).trans (hG4.below (by have:=B2.out.size; simp; omega) (fun k hk=>by have:=hng k; rcases Nat.lt_or_ge k (w.heap.size+3) with h' | h'; exact absurd hk (this h'); omega));have GT4:Hid (GRow wr.heap.size w4 vt (zp_ (o.ms.drop i))):=((GT.out.next (zd_ _)).next (zb_ _ (.cells #[.string c.k,.slice p c.l.length q,.int .i64 c.a,.int .i64 c.b,.int .i64 c.c] 91))).keep (sO_ hG4 (fun k hk=>by simp [Value.ownBlock] at hk; have:=hgl.out; omega));have O4:=hm_ hO4;clear hO4 hG4 hS4;refine wRd 9 (fun K hK=>?_);rw [if_pos (by rfl)];refine zx_ elC (.tmp 60) (.tmp 61) rfl (.slice v4 (i+1) c4) (i+1) (zp_ (o.ms.take i)++zp_ [⟨c,p,q⟩]) (w.heap.size+3) (i+1+(o.ms.length - i)) rfl O4.out (by have:=S4.out.lt; omega) vt (o.ms.length - i) ct (zp_ (o.ms.drop i)) rfl (by rw [yP_,List.length_drop]) (ya_ _) wr.heap.size GT4.out (by omega) rfl ?_;intro v5 c5 w5 hO5 hG5 hS5;refine wHk hK (⟨hG5.cell hH.1 (fun e=>by have:=O4.out.ge _ e; omega),hG5.cell hH.2.1 (fun e=>by have:=O4.out.ge _ e; omega),hG5.cell hH.2.2.1 (fun e=>by have:=O4.out.ge _ e; omega),hG5.cell hH.2.2.2 (fun e=>by have:=O4.out.ge _ e; omega)⟩) ?_;clear hK K hH;intro hH;have S5:Hid (SB w5 w.heap.size o c p q):=S4.out.gro hG5 O4.out.ge;have B5:Hid (Below w.heap.size w w5):=B4.out.trans (hG5.below B4.out.size (fun k hk=>by have:=O4.out.ge k hk; omega));have O5:=hm_ hO5;clear hO5 hG5 hS5;refine wTk 10 ?_;refine wDn ?_;clear hH u0 u1 u2 u3 S1 S2 S4 O4 OP2 GT GT4 LR B1 B2 B4 hng;obtain ⟨b0,b1,b2,b3,b4,b5,b6,o0,o1,o2,o3,th,fz,hz⟩:=S5.out;obtain ⟨t0,T0⟩:=isx (th 0 (by omega)).1;have s0:=(th 0 (by omega)).2;obtain ⟨t1,T1⟩:=isx (th 1 (by omega)).1;have s1:=(th 1 (by omega)).2;obtain ⟨t2,T2⟩:=isx (th 2 (by omega)).1;have s2:=(th 2 (by omega)).2;obtain ⟨t3,T3⟩:=isx (th 3 (by omega)).1;have s3:=(th 3 (by omega)).2;obtain ⟨t4,T4⟩:=isx (th 4 (by omega)).1;have s4:=(th 4 (by omega)).2;obtain ⟨t5,T5⟩:=isx (th 5 (by omega)).1;have s5:=(th 5 (by omega)).2;obtain ⟨t6,T6⟩:=isx (th 6 (by omega)).1;have s6:=(th 6 (by omega)).2;clear th;go_wp2;refine bodyPost_ret (v:=.agg #[.int .i64 o.x.id,.int .i64 o.x.n,.int .i64 o.x.cut,.slice v5 (i+1+(o.ms.length - i)) c5,.slice o.p1 o.x.fd.length o.c1,.slice o.p2 o.su.length o.c2,.slice o.p3 o.un.length o.c3]) (by simp [results,Tryz.results104,go_sem, *]) rfl ?_;obtain ⟨pp,cc,ee,hcc,hgg⟩:=O5.out.grow;cases ee;refine tD_ h.out HR.out HQ.out ?_ (by rw [HS.out]; simp; omega) hcc HLO.out ?_
   ·repeat (refine zt_ ?_ (by omega))
    exact B5.out
   ·rw [HS.out];refine GRow.weak ?_ (show w.heap.size<=w.heap.size+3 by omega);refine GRow.keep ?_ (zc_ (by omega));refine GRow.keep ?_ (zc_ (by omega));refine GRow.keep ?_ (zc_ (by omega));refine GRow.keep ?_ (zc_ (by omega));refine GRow.keep ?_ (zc_ (by omega));refine GRow.keep ?_ (zc_ (by omega));refine GRow.keep ?_ (zc_ (by omega));refine GRow.keep ?_ (zc_ (by omega));rw [show zp_ (o.ms.take i++⟨c,p,q⟩ :: o.ms.drop i)=(zp_ (o.ms.take i)++zp_ [⟨c,p,q⟩])++zp_ (o.ms.drop i) by rw [<- yQ_,<- yQ_]; simp];exact hgg
end
section
variable {W W':World} {b g i q:Nat} {t:TypeId} {u u' u0 u1 u2 u3 u4 v v' v0 v1 v2 v3 v4 v5 v6:Value} {vs xs:List Value}
structure Box (W:World) (g:Nat) (vs:List Value):Prop where
 is:∀ j (h:j < vs.length),W.cell? ⟨g,j,none⟩=some vs[j]∧W.frozen? ⟨g,j,none⟩=false
 lt:g < W.heap.size
theorem Box.next (h:Box W g vs) (hb:Below W.heap.size W W'):Box W' g vs:=⟨fun j hj=>⟨za_ hb (h.is j hj).1 h.lt,zf_ hb (h.is j hj).2 h.lt⟩,Nat.lt_of_lt_of_le h.lt hb.size⟩
theorem Box.gro (h:Box W g vs) (hg:Gro W W' u u') (hne:u.ownBlock≠some g):Box W' g vs:=
 ⟨fun j hj=>⟨hg.cell (h.is j hj).1 hne,by rw [World.frozen?_of_block (w:=W) (hg.grown.block g h.lt (fun e=>hne e.symm))]; exact (h.is j hj).2⟩,Nat.lt_of_lt_of_le h.lt hg.size⟩
theorem Box.oth (h:Box W g vs) (hne:g≠q):Box (W.setCell ⟨q,i,none⟩ u) g vs:=⟨fun j hj=>⟨zg_ (h.is j hj).1 hne,by simpa using (h.is j hj).2⟩,by simpa [World.setCell] using h.lt⟩
theorem Box.set (h:Box W g vs) (hi:i < vs.length):Box (W.setCell ⟨g,i,none⟩ u) g (vs.set i u):=by
 refine ⟨fun j hj=>⟨?_,?_⟩,by simpa [World.setCell] using h.lt⟩
 ·by_cases e:i=j
  ·subst e;rw [List.getElem_set_self];exact zB_ (by rw [(h.is i hi).1]; rfl)
  ·rw [List.getElem_set_ne e,zo_ e];exact (h.is j (by simpa using hj)).1
 ·have:=(h.is j (by simpa using hj)).2
  simpa using this
theorem zn_:Box (W.alloc (.cells vs.toArray t)) W.heap.size vs:=by
 refine ⟨fun j hj=>⟨?_,by go_simp⟩,by simp⟩;rw [World.cell?_alloc_at _ _ _ _ rfl,List.getElem?_toArray,List.getElem?_eq_getElem hj]
theorem Box.alloc {ob:Obj} (h:Box W g vs):Box (W.alloc ob) g vs:=h.next (zb_ _ _)
theorem Box.ne (h:Box W g vs) (hg:Gro W W' v v') (hne:v.ownBlock≠some g):v'.ownBlock≠some g:=hg.ne h.lt hne
theorem Box.c2 (h:Box W g [v0,v1]):W.cell? ⟨g,0,none⟩=some v0∧W.cell? ⟨g,1,none⟩=some v1:=⟨(h.is 0 (by simp)).1,(h.is 1 (by simp)).1⟩
theorem Box.f2 (h:Box W g [v0,v1]):W.frozen? ⟨g,0,none⟩=false∧W.frozen? ⟨g,1,none⟩=false:=⟨(h.is 0 (by simp)).2,(h.is 1 (by simp)).2⟩
theorem Box.o2 (h:Box W b xs) (hne:b≠g):Box ((W.setCell ⟨g,0,none⟩ u0).setCell ⟨g,1,none⟩ u1) b xs:=((h.oth hne).oth hne)
theorem Box.c4 (h:Box W g [v0,v1,v2,v3]):W.cell? ⟨g,0,none⟩=some v0∧W.cell? ⟨g,1,none⟩=some v1∧W.cell? ⟨g,2,none⟩=some v2∧W.cell? ⟨g,3,none⟩=some v3:=⟨(h.is 0 (by simp)).1,(h.is 1 (by simp)).1,(h.is 2 (by simp)).1,(h.is 3 (by simp)).1⟩
theorem Box.f4 (h:Box W g [v0,v1,v2,v3]):W.frozen? ⟨g,0,none⟩=false∧W.frozen? ⟨g,1,none⟩=false∧W.frozen? ⟨g,2,none⟩=false∧W.frozen? ⟨g,3,none⟩=false:=⟨(h.is 0 (by simp)).2,(h.is 1 (by simp)).2,(h.is 2 (by simp)).2,(h.is 3 (by simp)).2⟩
theorem Box.s4 (h:Box W g [v0,v1,v2,v3]):Box ((((W.setCell ⟨g,0,none⟩ u0).setCell ⟨g,1,none⟩ u1).setCell ⟨g,2,none⟩ u2).setCell ⟨g,3,none⟩ u3) g [u0,u1,u2,u3]:=by
 have:=((((h.set (i:=0) (u:=u0) (by simp)).set (i:=1) (u:=u1) (by simp)).set (i:=2) (u:=u2) (by simp)).set (i:=3) (u:=u3) (by simp))
 simpa using this
theorem Box.o4 (h:Box W b xs) (hne:b≠g):Box ((((W.setCell ⟨g,0,none⟩ u0).setCell ⟨g,1,none⟩ u1).setCell ⟨g,2,none⟩ u2).setCell ⟨g,3,none⟩ u3) b xs:=((((h.oth hne).oth hne).oth hne).oth hne)
theorem Box.c7 (h:Box W g [v0,v1,v2,v3,v4,v5,v6]):W.cell? ⟨g,0,none⟩=some v0∧W.cell? ⟨g,1,none⟩=some v1∧W.cell? ⟨g,2,none⟩=some v2∧W.cell? ⟨g,3,none⟩=some v3∧W.cell? ⟨g,4,none⟩=some v4∧W.cell? ⟨g,5,none⟩=some v5∧W.cell? ⟨g,6,none⟩=some v6:=⟨(h.is 0 (by simp)).1,(h.is 1 (by simp)).1,(h.is 2 (by simp)).1,(h.is 3 (by simp)).1,(h.is 4 (by simp)).1,(h.is 5 (by simp)).1,(h.is 6 (by simp)).1⟩
theorem Box.f7 (h:Box W g [v0,v1,v2,v3,v4,v5,v6]):W.frozen? ⟨g,0,none⟩=false∧W.frozen? ⟨g,1,none⟩=false∧W.frozen? ⟨g,2,none⟩=false∧W.frozen? ⟨g,3,none⟩=false∧W.frozen? ⟨g,4,none⟩=false∧W.frozen? ⟨g,5,none⟩=false∧W.frozen? ⟨g,6,none⟩=false:=⟨(h.is 0 (by simp)).2,(h.is 1 (by simp)).2,(h.is 2 (by simp)).2,(h.is 3 (by simp)).2,(h.is 4 (by simp)).2,(h.is 5 (by simp)).2,(h.is 6 (by simp)).2⟩
theorem Box.s7 {u5 u6:Value} (h:Box W g [v0,v1,v2,v3,v4,v5,v6]):Box (((((((W.setCell ⟨g,0,none⟩ u0).setCell ⟨g,1,none⟩ u1).setCell ⟨g,2,none⟩ u2).setCell ⟨g,3,none⟩ u3).setCell ⟨g,4,none⟩ u4).setCell ⟨g,5,none⟩ u5).setCell ⟨g,6,none⟩ u6) g [u0,u1,u2,u3,u4,u5,u6]:=by
 have:=(((((((h.set (i:=0) (u:=u0) (by simp)).set (i:=1) (u:=u1) (by simp)).set (i:=2) (u:=u2) (by simp)).set (i:=3) (u:=u3) (by simp)).set (i:=4) (u:=u4) (by simp)).set (i:=5) (u:=u5) (by simp)).set (i:=6) (u:=u6) (by simp))
 simpa using this
theorem Box.o7 {u5 u6:Value} (h:Box W b xs) (hne:b≠g):Box (((((((W.setCell ⟨g,0,none⟩ u0).setCell ⟨g,1,none⟩ u1).setCell ⟨g,2,none⟩ u2).setCell ⟨g,3,none⟩ u3).setCell ⟨g,4,none⟩ u4).setCell ⟨g,5,none⟩ u5).setCell ⟨g,6,none⟩ u6) b xs:=(((((((h.oth hne).oth hne).oth hne).oth hne).oth hne).oth hne).oth hne)
theorem zH_ {P:Program} {c:Code} {Q:Exit->Act->World->Prop} {a:Act} (I:World->Prop) (h:I W) (k:∀ W',I W'->Code.wp P c Q a W'):Code.wp P c Q a W:=k W h
theorem wO_ (id:Int) (w:World) (lo:Nat) :
  Calls Tryz.prog 125 #[.int .i64 id] w fun e w'=>∃ o:No,e=.returned (nV o)∧NoR lo w' o∧o.x=newN id∧o.su=[]∧o.un=[]∧Below w.heap.size w w':=by
 (try unfold nV);go_enter Tryz.func125,Tryz.ntmps125;go_wp2;refine bodyPost_ret (v:=.agg #[.int .i64 id,.int .i64 0,.int .i64 0,.slice (some ⟨w.heap.size+1,0,none⟩) 0 0,.slice (some ⟨w.heap.size+1+1,0,none⟩) 0 0,.slice (some ⟨w.heap.size+1+1+1,0,none⟩) 0 0,.slice (some ⟨w.heap.size+1+1+1+1,0,none⟩) 0 0]) (by simp [results,Tryz.results125,go_sem, *]) rfl ?_;refine ⟨⟨newN id,[],_,_,_,_,_,_,_,_,[],[]⟩,rfl,⟨rfl,.inl rfl,.inl rfl,.inl rfl,.inl rfl,fun m hm=>by simp at hm,by simp [newN]⟩,rfl,rfl,rfl,?_⟩
 repeat (first | exact Below.refl _ _ | refine Below.drew ?_ | refine below_drewN ?_ _ | refine Below.alloc ?_ (by first | (simp; done) | (simp; omega)) _ | refine Below.setCell ?_ (by first | (simp; done) | (simp; omega)) _)
theorem uS_ (lo:Nat) (o:No) (k:ByteArray) (c:Cl) (p:Option Addr) (q:Nat) (w:World) (hs:o.su.length+o.un.length < 300) (hm:o.ms.length < 100) (hl:c.l.length<=100) (h0:NoR lo w o) :
  Calls Tryz.prog 103 #[nV o,.string k,.agg #[.slice p c.l.length q,.int .i64 c.a,.int .i64 c.b,.int .i64 c.c]] w fun e w'=>e=.returned (.int .i64 0)∧Below w.heap.size w w':=by
 (try unfold nV);have h:Hid (NoR lo w o):=h0;have CF:Hid (∀ W,NoR lo W o->Calls Tryz.prog 153 #[nV o,.string k] W fun e w'=>∃ i:Int,e=.returned (.int .i64 i)∧Hid (se_ o.ms k i)∧Below W.heap.size W w'):=fun W hW=>wr_ lo o k W (by omega) hW
 clear h0;have q1:IntKind.i64.wrap ((o.su.length:Int)+(o.un.length:Int))=(o.su.length:Int)+(o.un.length:Int):=by rw [IntKind.wrap_i64]; omega
 have q2:¬ ((o.su.length:Int)+(o.un.length:Int)=300):=by omega
 have q3:¬ ((o.ms.length:Int)=100):=by omega
 have q4:¬ ((100:Int) < (c.l.length:Int)):=by omega
 have BB:Hid (Below w.heap.size w ((w.alloc (.cells (nL o).toArray 29)).alloc (.cells #[.slice p c.l.length q,.int .i64 c.a,.int .i64 c.b,.int .i64 c.c] 37))):=(zb_ _ _).trans ((zb_ _ _).mono (by simp));have BX:Hid (Box ((w.alloc (.cells (nL o).toArray 29)).alloc (.cells #[.slice p c.l.length q,.int .i64 c.a,.int .i64 c.b,.int .i64 c.c] 37)) w.heap.size (nL o)):=zn_.alloc
 have BO:Hid (Box ((w.alloc (.cells (nL o).toArray 29)).alloc (.cells #[.slice p c.l.length q,.int .i64 c.a,.int .i64 c.b,.int .i64 c.c] 37)) (w.heap.size+1) [.slice p c.l.length q,.int .i64 c.a,.int .i64 c.b,.int .i64 c.c]):=by
  have:=zn_ (W:=w.alloc (.cells (nL o).toArray 29)) (t:=37) (vs:=[.slice p c.l.length q,.int .i64 c.a,.int .i64 c.b,.int .i64 c.c])
  show Box _ _ _
  simpa using this
 go_enter Tryz.func103,Tryz.ntmps103;go_wp2_with fail;generalize ((w.alloc (.cells (nL o).toArray 29)).alloc (.cells #[.slice p c.l.length q,.int .i64 c.a,.int .i64 c.b,.int .i64 c.c] 37))=W0 at *;go_at_call 153;refine (CF.out _ (h.out.next BB.out)).mono ?_;rintro e w1 ⟨i,rfl,hF,hb⟩;obtain ⟨b0,b1,b2,b3,b4,b5,b6⟩:=(BX.out.next hb).c7;obtain ⟨a0,a1,a2,a3⟩:=(BO.out.next hb).c4;have B1:Hid (Below w.heap.size w w1):=BB.out.trans (hb.mono BB.out.size);clear hb BX BO;rcases hF.out with ⟨hn,rfl⟩ | ⟨j,hj,rfl,hk,hg⟩
 ·have p1:((-1:Int)) < 0:=by omega
  clear hF;go_wp2;go_ret;exact ⟨by first | rfl | simp,B1.out⟩
 ·have p1:¬ ((j:Int)) < 0:=by omega
  clear hF hk hg;go_wp2;go_ret;exact ⟨by first | rfl | simp,B1.out⟩
end
section
variable {W:World} {g:Nat} {v0 v1 v2 v3 v4:Value}
theorem Box.c5 (h:Box W g [v0,v1,v2,v3,v4]):W.cell? ⟨g,0,none⟩=some v0∧W.cell? ⟨g,1,none⟩=some v1∧W.cell? ⟨g,2,none⟩=some v2∧W.cell? ⟨g,3,none⟩=some v3∧W.cell? ⟨g,4,none⟩=some v4:=⟨(h.is 0 (by simp)).1,(h.is 1 (by simp)).1,(h.is 2 (by simp)).1,(h.is 3 (by simp)).1,(h.is 4 (by simp)).1⟩
end
end Go.Proofs.YtijcjhcgpmnchaaGreatDoor
