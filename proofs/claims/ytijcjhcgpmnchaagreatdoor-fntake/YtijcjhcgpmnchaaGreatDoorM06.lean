/- Nodes, part 6 of the law FnTake. -/
import Derived.Test.YtijcjhcgpmnchaaGreatDoorM02
import Derived.Test.YtijcjhcgpmnchaaGreatDoorM04
namespace Go.Proofs.YtijcjhcgpmnchaaGreatDoor
open Go.RowKit
set_option maxRecDepth 100000
set_option maxHeartbeats 16000000
set_option linter.unusedSimpArgs false
set_option linter.unusedVariables false
section
variable {W w w2:World} {a c:Int} {b base e g k n n':Nat} {l:List Sib} {t:TypeId} {v v':Value} {xs xs':List Value}
theorem yG_:(Tryz.prog.info? 89).map (fun i=>(i.zero,i.size,i.bytes))=some (some (.agg #[.int .i64 0,.int .i64 0,.int .i64 0,.bool false]),4,32):=by kernel_rfl
def fil (a b c:Int) (l:List Sib):List Sib:=l.filter fun s=>!decide (s.n<=comp a b c s.p)
theorem uu_ {b:Int} (h:k < l.length) (hd:decide (l[k].n<=comp a b c l[k].p)=true):fil a b c (l.take (k+1))=fil a b c (l.take k):=by
 unfold fil;rw [List.take_succ_eq_append_getElem h,List.filter_append,List.filter_cons_of_neg (by simp [hd]),List.filter_nil,List.append_nil]
theorem uv_ {b:Int} (h:k < l.length) (hd:decide (l[k].n<=comp a b c l[k].p)=false):fil a b c (l.take (k+1))=fil a b c (l.take k)++[l[k]]:=by
 unfold fil;rw [List.take_succ_eq_append_getElem h,List.filter_append,List.filter_cons_of_pos (by simp [hd]),List.filter_nil]
theorem qE_ (a b c:Int) (l:List Sib) (k:Nat):(fil a b c (l.take k)).length<=k:=by
 refine Nat.le_trans (List.length_filter_le _ _) ?_;simp;omega
theorem zA_ {size:Nat} (h:w.ownsRow base e size v n xs) (h1:n=n') (h2:xs=xs'):w.ownsRow base e size v n' xs':=by subst h1; subst h2; exact h
theorem sK_ {x:Sib}:x9_ (W.alloc (.cells #[.int .i64 x.p,.int .i64 x.n,.int .i64 x.v,.bool x.d] t)) W.heap.size 0 x:=by
 refine ⟨?_,?_,?_,?_⟩ <;> go_simp
theorem uD_ (b o j:Nat):((⟨b,o,none⟩:Addr).add j)=⟨b,o+j,none⟩:=by
 unfold Addr.add;by_cases hk:j=0 <;> simp [hk]
theorem w7_ {x:Sib} (h:x9_ W g 0 x):∀ j u,(flat [x])[j]? = some u->W.cell? ((⟨g,0,none⟩:Addr).add j)=some u:=by
 intro j u hu;rw [uD_];refine vV_ (l:=[x]) (off:=0) rfl (fun i hi=>?_) j u hu
 have:i=0:=by simpa using hi
 subst this
 simpa using h
theorem Gro.none_ne:Value.ownBlock (.slice none 0 0)≠some b:=by simp [Value.ownBlock]
theorem nU_ {wr w3:World} {vr:Value} {o1 o2:Obj} {m0:List Sib} {b:Int} (hk:k < l.length) (hd:decide (l[k].n<=comp a b c l[k].p)=false) (G:Gro w wr v vr) (hb:Below (wr.alloc o1).heap.size (wr.alloc o1) w2) (hg:Gro (w2.alloc o2) w3 vr v')
  (hown:w3.ownsRow 0 e 4 v' ((m0++fil a b c (l.take k)).length+1) (flat (m0++fil a b c (l.take k))++flat [l[k]])) :
  Gro w w3 v v'∧w3.ownsRow 0 e 4 v' (m0++fil a b c (l.take (k+1))).length (flat (m0++fil a b c (l.take (k+1)))):=by
 refine ⟨G.trans ((Gro.of_below ((Below.refl _ _).alloc (Nat.le_refl _) _)).trans ((Gro.of_below hb).trans ((Gro.of_below ((Below.refl _ _).alloc (Nat.le_refl _) _)).trans hg))),zA_ hown ?_ ?_⟩
 ·rw [uv_ hk hd]; simp; omega
 ·rw [uv_ hk hd,<- List.append_assoc,zz_ _ [l[k]]]
theorem nV_ (cap:Nat) (ao:Option Addr) (l m0:List Sib) (a b c:Int) (v:Value) (w:World) (hm:m0.length+l.length<=2097152) (hn:∀ i (h:i < l.length),0<=l[i].p∧l[i].p < 3) (hr0:zk_ w ao l) (hne0:∀ x,ao=some x->l≠[]->v.ownBlock≠some x.block) (ho0:w.ownsRow 0 89 4 v m0.length (flat m0)) :
  Calls Tryz.prog 132 #[v,.agg #[.int .i64 a,.int .i64 b,.int .i64 c],.slice ao l.length cap] w fun e w'=>∃ v',e=.returned v'∧w'.ownsRow 0 89 4 v' (m0++fil a b c l).length (flat (m0++fil a b c l))∧Gro w w' v v':=by
 have hr:Hid (zk_ w ao l):=hr0;have hne:=hm_ hne0;have ho:=hm_ ho0;have hnn:=hm_ hn;have hvn:Hid (v.ownBlock≠some w.heap.size):=fun e=>by have:=(ho0.lt _ e).2; omega
 clear hr0 hne0 ho0 hn;obtain ⟨i0,hi,hz0,hz1,hz2⟩:=info_parts yG_;have HI:Hid (Tryz.prog.info? 89=some i0∧i0.zero=some (.agg #[.int .i64 0,.int .i64 0,.int .i64 0,.bool false])∧i0.size=4∧i0.bytes=32):=⟨hi,hz0,hz1,hz2⟩;clear hi hz0 hz1 hz2;go_enter Tryz.func132,Tryz.ntmps132;go_wp2;go_loopw [0,11] (fun s0 s11 wr=>∃ k:Nat,k<=l.length∧s11=.int .i64 k∧Gro w wr v s0∧wr.ownsRow 0 89 4 s0 (m0++fil a b c (l.take k)).length (flat (m0++fil a b c (l.take k)))∧w.heap.size < wr.heap.size∧s0.ownBlock≠some w.heap.size∧wr.cell? ⟨w.heap.size,0,none⟩=some (.int .i64 a)∧wr.cell? ⟨w.heap.size,1,none⟩=some (.int .i64 b)∧wr.cell? ⟨w.heap.size,2,none⟩=some (.int .i64 c)) (fun _ s11 _=>l.length - (intOf s11).toNat)
 case atStart=>exact ⟨0,by omega,rfl,Gro.of_below ((Below.refl _ _).alloc (Nat.le_refl _) _),zA_ (ho.out.alloc _) (by simp [fil]) (by simp [fil]),by simp,hvn.out,by go_simp,by go_simp,by go_simp⟩
 case round=>
  obtain ⟨k,hk,rfl,hG0,hO0,hz,hv0,C0,C1,C2⟩:=hrel;have hG:Hid (Gro w wr v u0):=hG0;have hO:=hm_ hO0;have hV:=hm_ hv0;clear hG0 hO0 hv0;by_cases hkl:k < l.length
  ·have hkl':(k:Int) < (l.length:Int):=by omega
   have k0:(0:Int)<=(k:Int):=by omega
   obtain ⟨n0,n3⟩:=hnn.out k hkl;rcases hG.out.row hr.out (fun q hq=>hne.out q hq (fun h=>by rw [h] at hkl; simp at hkl)) with h' | ⟨p,off,rfl,h2⟩
   ·rw [h'] at hkl; simp at hkl
   obtain ⟨x0,x1,x2,x3⟩:=h2 k hkl;have E0:∀ o,(wr.alloc o).cell? ⟨w.heap.size,0,none⟩=some (.int .i64 a):=fun o=>zj_ C0 hz
   have E1:∀ o,(wr.alloc o).cell? ⟨w.heap.size,1,none⟩=some (.int .i64 b):=fun o=>zj_ C1 hz
   have E2:∀ o,(wr.alloc o).cell? ⟨w.heap.size,2,none⟩=some (.int .i64 c):=fun o=>zj_ C2 hz
   clear h2;go_wp2_with fail;refine (wk_ a b c l[k].p l[k].n _ n0 n3).mono ?_;rintro e w2 ⟨rfl,hb0⟩;have hb:Hid (Below _ _ w2):=hb0;have D0:=za_ hb0 (b:=wr.heap.size) (o:=0) (v:=.int .i64 l[k].p) (by go_simp) (by simp);have D1:=za_ hb0 (b:=wr.heap.size) (o:=1) (v:=.int .i64 l[k].n) (by go_simp) (by simp);have D2:=za_ hb0 (b:=wr.heap.size) (o:=2) (v:=.int .i64 l[k].v) (by go_simp) (by simp);have D3:=za_ hb0 (b:=wr.heap.size) (o:=3) (v:=.bool l[k].d) (by go_simp) (by simp);have H0:Hid (w2.cell? ⟨w.heap.size,0,none⟩=some (.int .i64 a)):=za_ hb0 (E0 _) (by simp; omega);have H1:Hid (w2.cell? ⟨w.heap.size,1,none⟩=some (.int .i64 b)):=za_ hb0 (E1 _) (by simp; omega);have H2:Hid (w2.cell? ⟨w.heap.size,2,none⟩=some (.int .i64 c)):=za_ hb0 (E2 _) (by simp; omega);have hz2:=hb0.size;simp at hz2;have hO2:Hid (w2.ownsRow 0 89 4 u0 (m0++fil a b c (l.take k)).length (flat (m0++fil a b c (l.take k)))):=zP_ (hO.out.alloc _) hb0;have HF:=qE_ a b c l k
   have HL:Hid ((m0++fil a b c (l.take k)).length+1<=2097153):=by
    show _<=_
    simp only [List.length_append];omega
   clear hb0 HF hO x0 x1 x2 x3 E0 E1 E2 C0 C1 C2;cases hk1:decide (l[k].n<=comp a b c l[k].p)
   ·have HK:=hm_ hk1
    go_wp2_with (first
     | (at_builtin; refine zJ_ rfl _ _ 33 rfl 89 i0 (.agg #[.int .i64 0,.int .i64 0,.int .i64 0,.bool false]) 4 32 Tryz.underlying33 HI.out.1 HI.out.2.1 HI.out.2.2.1 HI.out.2.2.2 rfl (by decide) _ _ _ rfl (hO2.out.alloc _) ⟨w2.heap.size,0,none⟩ 1 1 (flat [l[k]]) rfl rfl (w7_ sK_) (wq_ _) ?c3 ?c4 ?_)
     | go_in)
    case c3=>have:=HL.out; unfold maxLen; omega
    case c4=>have:=HL.out; omega
    intro v' w3 hown' hgro;obtain ⟨G3,O3⟩:=nU_ (m0:=m0) hkl HK.out hG.out hb.out hgro (zA_ hown' (by simp) rfl);have hz3:Hid (w.heap.size < w3.heap.size):=Nat.lt_of_lt_of_le (by simp; omega) hgro.size;have hV3:Hid (v'.ownBlock≠some w.heap.size):=hgro.ne (by simp; omega) hV.out;have I0:Hid (w3.cell? ⟨w.heap.size,0,none⟩=some (.int .i64 a)):=hgro.cell (zj_ H0.out (by omega)) hV.out;have I1:Hid (w3.cell? ⟨w.heap.size,1,none⟩=some (.int .i64 b)):=hgro.cell (zj_ H1.out (by omega)) hV.out;have I2:Hid (w3.cell? ⟨w.heap.size,2,none⟩=some (.int .i64 c)):=hgro.cell (zj_ H2.out (by omega)) hV.out;have G4:Hid (Gro w w3 v v'):=G3;have O4:=hm_ O3;clear G3 O3 hown' hgro hk1 D0 D1 D2 D3;go_wp2
    go_roundw
    case rel=>first | exact ⟨k+1,by omega,by go_num,G4.out,O4.out,hz3.out,hV3.out,I0.out,I1.out,I2.out⟩ | ((repeat apply Exists.intro); exact ⟨⟨k+1,by omega,by go_num,G4.out,O4.out,hz3.out,hV3.out,I0.out,I1.out,I2.out⟩,rfl⟩)
    case measure=>simp [intOf]; omega
   ·have HK:=hm_ hk1;have G4:Hid (Gro w w2 v u0):=hG.out.trans ((Gro.of_below ((Below.refl _ _).alloc (Nat.le_refl _) _)).trans (Gro.of_below hb.out));have O4:Hid (w2.ownsRow 0 89 4 u0 (m0++fil a b c (l.take (k+1))).length (flat (m0++fil a b c (l.take (k+1))))):=by rw [uu_ hkl HK.out]; exact hO2.out
    have hz3:Hid (w.heap.size < w2.heap.size):=by show _ < _; omega
    go_wp2
    go_roundw
    case rel=>first | exact ⟨k+1,by omega,by go_num,G4.out,O4.out,hz3.out,hV.out,H0.out,H1.out,H2.out⟩ | ((repeat apply Exists.intro); exact ⟨⟨k+1,by omega,by go_num,G4.out,O4.out,hz3.out,hV.out,H0.out,H1.out,H2.out⟩,rfl⟩)
    case measure=>simp [intOf]; omega
  ·have hkl':¬ (k:Int) < (l.length:Int):=by omega
   have e:k=l.length:=by omega
   subst e;go_wp2;go_ret;exact ⟨_,rfl,zA_ hO.out (by simp) (by simp),hG.out⟩
end
section
variable {W w w' w1 w2:World} {g:Nat} {u v:Value}
theorem zX_ {r:Option Nat} (h:w.grownBy w1 r) (k:w1.grownBy w2 r):w.grownBy w2 r:=
 ⟨k.os.trans h.os,k.tape.trans h.tape,k.output.trans h.output,Nat.le_trans h.size k.size,fun b hb hne=>(k.block b (Nat.lt_of_lt_of_le hb h.size) hne).trans (h.block b hb hne)⟩
theorem z4_ {r:Option Nat} (h:Below w.heap.size w w'):w.grownBy w' r:=⟨h.os,h.tape,h.output,h.size,fun b hb _=>h.block b hb⟩
theorem wp_ (w:World) (g o:Nat) (u:Value):w.grownBy (w.setCell ⟨g,o,none⟩ u) (some g):=
 ⟨by simp [World.setCell],by simp [World.setCell],by simp [World.setCell],by simp [World.setCell],fun b _ hne=>Below.heap_setCell w ⟨g,o,none⟩ u b (fun e=>hne (by rw [e]))⟩
theorem zw_ {o o':Nat} (h:W.cell? ⟨g,o,none⟩=some v) (hne:o≠o'):(W.setCell ⟨g,o',none⟩ u).cell? ⟨g,o,none⟩=some v:=by
 rw [World.cell?_setCell_other _ _ _ _ (fun e=>by cases e; exact hne rfl)];exact h
theorem zI_ {o:Nat} (h:W.cell? ⟨g,o,none⟩=some v):(W.setCell ⟨g,o,none⟩ u).cell? ⟨g,o,none⟩=some u:=World.cell?_setCell_same W _ u h
end
section
variable {W W' w:World} {a c:Int} {ao:Option Addr} {g n:Nat} {l:List Sib} {v0:Value}
def wu_ (W:World) (g:Nat) (v0:Value) (a b c:Int):Prop:=W.cell? ⟨g,0,none⟩=some v0∧W.cell? ⟨g,1,none⟩=some (.int .i64 a)∧W.cell? ⟨g,2,none⟩=some (.int .i64 b)∧W.cell? ⟨g,3,none⟩=some (.int .i64 c)
theorem yV_ {b:Int} (h:Hid (wu_ W g v0 a b c)) (hb:Below W.heap.size W W') (hl:Hid (g < W.heap.size)):Hid (wu_ W' g v0 a b c):=
 ⟨za_ hb h.out.1 hl.out,za_ hb h.out.2.1 hl.out,za_ hb h.out.2.2.1 hl.out,za_ hb h.out.2.2.2 hl.out⟩
theorem zZ_ (hl:Hid (g < W.heap.size)) (hb:Below n W W'):Hid (g < W'.heap.size):=Nat.lt_of_lt_of_le hl.out hb.size
theorem zM_ (h:Hid (zk_ W ao l)) (hb:Below W.heap.size W W'):Hid (zk_ W' ao l):=h.out.next hb
theorem ze_ (h:Hid (Below w.heap.size w W)) (hb:Below W.heap.size W W'):Hid (Below w.heap.size w W'):=h.out.trans (hb.mono h.out.size)
theorem zb_ (W:World) (o:Obj):Below W.heap.size W (W.alloc o):=(Below.refl _ _).alloc (Nat.le_refl _) _
theorem zd_ (W:World):Below W.heap.size W W.drew:=(Below.refl _ _).drew
theorem z8_ {o:Obj}:Hid (W.heap.size < (W.alloc o).heap.size):=by show _ < _; simp
def q6_ (W:World) (g:Nat) (a b c:Int):Prop:=W.cell? ⟨g,0,none⟩=some (.int .i64 a)∧W.cell? ⟨g,1,none⟩=some (.int .i64 b)∧W.cell? ⟨g,2,none⟩=some (.int .i64 c)
theorem o5_ {b:Int} (h:Hid (q6_ W g a b c)) (hb:Below W.heap.size W W') (hl:Hid (g < W.heap.size)):Hid (q6_ W' g a b c):=
 ⟨za_ hb h.out.1 hl.out,za_ hb h.out.2.1 hl.out,za_ hb h.out.2.2 hl.out⟩
theorem qX_ (P:Prop):∃ r:Bool,Hid (r=true↔P):=by
 by_cases h:P
 ·exact ⟨true,⟨fun _=>h,fun _=>rfl⟩⟩
 ·exact ⟨false,⟨fun h'=>(by cases h'),fun h'=>(h h').elim⟩⟩
theorem z6_ (h:Hid (zQ_ W g n)) (hb:Below W.heap.size W W') (hl:Hid (g < W.heap.size)):Hid (zQ_ W' g n):=h.out.next hb hl.out
end
def yu_ (s:ByteArray):Nat->Nat
 | 0=>0
 | k+1=>(yu_ s k+(k+1) * ((s.data.toList.getD k 0).toNat+1)) % 9973
theorem yW_ (s:ByteArray) (k:Nat):yu_ s k < 9973:=by
 cases k with
 | zero=>simp [yu_]
 | succ k=>exact Nat.mod_lt _ (by omega)
theorem vw_ (s:ByteArray) (k:Nat) (h:k < s.size):yu_ s (k+1)=(yu_ s k+(k+1) * ((s[k]'h).toNat+1)) % 9973:=by
 have e:s.data.toList.getD k 0=s[k]'h:=by
  have h':k < s.data.toList.length:=by simpa using h
  rw [List.getD_eq_getElem?_getD,List.getElem?_eq_getElem h'];simp;rfl
 rw [<- e]; rfl
theorem vH_ (i c:Nat) (hi:i < 1099511627776) (hc:c < 256):(i+1) * (c+1)<=281474976710656:=Nat.le_trans (Nat.mul_le_mul (show i+1<=1099511627776 by omega) (show c+1<=256 by omega)) (by decide)
theorem wX_ (s:ByteArray) (w:World) (hs:s.size < 1099511627776) :
  Calls Tryz.prog 74 #[.string s] w fun e w'=>e=.returned (.int .i64 (yu_ s s.size:Nat))∧Below w.heap.size w w':=by
 go_enter Tryz.func74,Tryz.ntmps74;go_wp2;go_loopw [3,4] (fun s3 s4 wr=>∃ i:Nat,i<=s.size∧s4=.int .i64 i∧s3=.int .i64 (yu_ s i:Nat)∧wr=w) (fun _ s4 _=>s.size - (intOf s4).toNat)
 case atStart=>exact ⟨0,by omega,rfl,rfl,rfl⟩
 case round=>
  obtain ⟨i,hi,rfl,rfl,rfl⟩:=hrel;obtain ⟨n,hn⟩:∃ n,n=yu_ s i:=⟨_,rfl⟩;have hnb:n < 9973:=by rw [hn]; exact yW_ s i
  have HN:Hid (n=yu_ s i):=hn;rw [<- hn];clear hn;have kk:(0:Int)<=(i:Int):=by omega
  by_cases hlt:i < s.size
  ·have hlt':(i:Int) < (s.size:Int):=by omega
   obtain ⟨c,hc⟩:∃ c:Nat,c=(s[i]'hlt).toNat:=⟨_,rfl⟩;have hgi:∀ h:i < s.size,((s[i]'h).toNat:Int)=(c:Int):=fun h=>by rw [hc]
   have hc256:c < 256:=by rw [hc]; exact (s[i]'hlt).toNat_lt
   have HC:=hm_ hc;clear hc;obtain ⟨p,hp⟩:∃ p:Nat,p=(i+1) * (c+1):=⟨_,rfl⟩;have hpb:p<=281474976710656:=by rw [hp]; exact vH_ i c (by omega) hc256
   have HP:=hm_ hp;have hpi:((i:Int)+1) * ((c:Int)+1)=(p:Int):=by rw [hp]; simp
   have hpi':IntKind.i64.wrap (((i:Int)+1) * ((c:Int)+1))=(p:Int):=by rw [hpi,IntKind.wrap_i64]; omega
   clear hp;have q1:IntKind.i64.wrap ((c:Int))=(c:Int):=by rw [IntKind.wrap_i64]; omega
   have q2:IntKind.i64.wrap ((n:Int)+(p:Int))=(n:Int)+(p:Int):=by rw [IntKind.wrap_i64]; omega
   have q3:((n:Int)+(p:Int)).tmod 9973=((n:Int)+(p:Int)) % 9973:=Int.tmod_eq_emod_of_nonneg (by omega);have q4:IntKind.i64.wrap (((n:Int)+(p:Int)) % 9973)=((n:Int)+(p:Int)) % 9973:=by rw [IntKind.wrap_i64]; omega
   have HR:Hid (((n:Int)+(p:Int)) % 9973=((yu_ s (i+1):Nat):Int)):=by
    show _=_
    rw [vw_ s i hlt,<- HN.out,<- HC.out,<- HP.out];simp
   go_wp2
   go_roundw
   case rel=>exact ⟨i+1,by omega,by go_num,by rw [<- HR.out],by first | rfl | trivial⟩
   case measure=>simp [intOf]; omega
  ·have hlt':¬ (i:Int) < (s.size:Int):=by omega
   have HE:Hid (i=s.size):=(show i=s.size by omega);go_wp2;go_ret;exact ⟨(xJ_ (by rw [HN.out,HE.out])),Below.refl _ _⟩
theorem vf_ (s:ByteArray) (w:World) (hs:s.size < 1099511627776) :
  Calls Tryz.prog 73 #[.string s] w fun e w'=>e=.returned (.int .i64 (yu_ s s.size:Nat))∧Below w.heap.size w w':=by
 go_enter Tryz.func73,Tryz.ntmps73;go_wp2;go_loopw [3,4,7] (fun s3 s4 s7 wr=>∃ i:Nat,i<=s.size∧s7=.int .i64 i∧s3=.int .i64 (yu_ s i:Nat)∧wr=w) (fun _ _ s7 _=>s.size - (intOf s7).toNat)
 case atStart=>exact ⟨0,by omega,rfl,rfl,rfl⟩
 case round=>
  obtain ⟨i,hi,rfl,rfl,rfl⟩:=hrel;obtain ⟨n,hn⟩:∃ n,n=yu_ s i:=⟨_,rfl⟩;have hnb:n < 9973:=by rw [hn]; exact yW_ s i
  have HN:Hid (n=yu_ s i):=hn;rw [<- hn];clear hn;have kk:(0:Int)<=(i:Int):=by omega
  by_cases hlt:i < s.size
  ·have hlt':(i:Int) < (s.size:Int):=by omega
   obtain ⟨c,hc⟩:∃ c:Nat,c=(s[i]'hlt).toNat:=⟨_,rfl⟩;have hgi:∀ h:i < s.size,((s[i]'h).toNat:Int)=(c:Int):=fun h=>by rw [hc]
   have hc256:c < 256:=by rw [hc]; exact (s[i]'hlt).toNat_lt
   have HC:=hm_ hc;clear hc;obtain ⟨p,hp⟩:∃ p:Nat,p=(i+1) * (c+1):=⟨_,rfl⟩;have hpb:p<=281474976710656:=by rw [hp]; exact vH_ i c (by omega) hc256
   have HP:=hm_ hp;have hpi:((i:Int)+1) * ((c:Int)+1)=(p:Int):=by rw [hp]; simp
   have hpi':IntKind.i64.wrap (((i:Int)+1) * ((c:Int)+1))=(p:Int):=by rw [hpi,IntKind.wrap_i64]; omega
   clear hp;have q1:IntKind.i64.wrap ((c:Int))=(c:Int):=by rw [IntKind.wrap_i64]; omega
   have q2:IntKind.i64.wrap ((n:Int)+(p:Int))=(n:Int)+(p:Int):=by rw [IntKind.wrap_i64]; omega
   have q3:((n:Int)+(p:Int)).tmod 9973=((n:Int)+(p:Int)) % 9973:=Int.tmod_eq_emod_of_nonneg (by omega);have q4:IntKind.i64.wrap (((n:Int)+(p:Int)) % 9973)=((n:Int)+(p:Int)) % 9973:=by rw [IntKind.wrap_i64]; omega
   have HR:Hid (((n:Int)+(p:Int)) % 9973=((yu_ s (i+1):Nat):Int)):=by
    show _=_
    rw [vw_ s i hlt,<- HN.out,<- HC.out,<- HP.out];simp
   go_wp2
   go_roundw
   case rel=>exact ⟨i+1,by omega,by go_num,by rw [<- HR.out],by first | rfl | trivial⟩
   case measure=>simp [intOf]; omega
  ·have hlt':¬ (i:Int) < (s.size:Int):=by omega
   have HE:Hid (i=s.size):=(show i=s.size by omega);go_wp2;go_ret;exact ⟨(xJ_ (by rw [HN.out,HE.out])),Below.refl _ _⟩
section
variable {i:Nat} {l:List Sib}
def kn (a b c:Int) (s:Sib):Bool:=decide (s.n<=comp a b c s.p)
def jn (a b c x y z:Int):List Sib->List Sib->List Sib
 | [],rest=>fil a b c rest
 | s :: l,[]=>fil x y z [s]++jn a b c x y z l []
 | s :: l,o :: rest=>
  if 0 < z5_ o.p o.n s.p s.n then fil x y z [s]++jn a b c x y z l (o :: rest)
  else if o.p=s.p∧o.n=s.n then s :: jn a b c x y z l rest
  else fil a b c [o]++jn a b c x y z (s :: l) rest
termination_by l r=>l.length+r.length
theorem yS_ (h:i < l.length):l.drop i=l[i] :: l.drop (i+1):=List.drop_eq_getElem_cons h
theorem nG_ (a b c x y z:Int) (l l2:List Sib) (i j:Nat) (h:l.length<=i):jn a b c x y z (l.drop i) (l2.drop j)=fil a b c (l2.drop j):=by
 rw [List.drop_of_length_le h,jn]
theorem nF_ (a b c x y z:Int) (l l2:List Sib) (i j:Nat) (h:i < l.length) (h2:l2.length<=j):jn a b c x y z (l.drop i) (l2.drop j)=fil x y z [l[i]]++jn a b c x y z (l.drop (i+1)) (l2.drop j):=by
 rw [yS_ h,List.drop_of_length_le h2,jn]
theorem oM_ (a b c x y z:Int) (l l2:List Sib) (i j:Nat) (h:i < l.length) (h2:j < l2.length) (hd:0 < z5_ l2[j].p l2[j].n l[i].p l[i].n):jn a b c x y z (l.drop i) (l2.drop j)=fil x y z [l[i]]++jn a b c x y z (l.drop (i+1)) (l2.drop j):=by
 rw [yS_ h,yS_ h2,jn,if_pos hd]
theorem oL_ (a b c x y z:Int) (l l2:List Sib) (i j:Nat) (h:i < l.length) (h2:j < l2.length) (hd:¬ 0 < z5_ l2[j].p l2[j].n l[i].p l[i].n) (he:l2[j].p=l[i].p∧l2[j].n=l[i].n):jn a b c x y z (l.drop i) (l2.drop j)=[l[i]]++jn a b c x y z (l.drop (i+1)) (l2.drop (j+1)):=by
 rw [yS_ h,yS_ h2,jn,if_neg hd,if_pos he];rfl
theorem oN_ (a b c x y z:Int) (l l2:List Sib) (i j:Nat) (h:i < l.length) (h2:j < l2.length) (hd:¬ 0 < z5_ l2[j].p l2[j].n l[i].p l[i].n) (he:¬ (l2[j].p=l[i].p∧l2[j].n=l[i].n)):jn a b c x y z (l.drop i) (l2.drop j)=fil a b c [l2[j]]++jn a b c x y z (l.drop i) (l2.drop (j+1)):=by
 rw [yS_ h,yS_ h2,jn,if_neg hd,if_neg he]
theorem xY_ (a b c:Int) (s:Sib):(fil a b c [s]).length<=1:=by
 unfold fil;exact Nat.le_trans (List.length_filter_le _ _) (by simp)
theorem eqd (p n q m:Int) (w:World):Sem.run Tryz.prog (Op.equalIn 10000 41 (.agg #[.int .i64 p,.int .i64 n]) (.agg #[.int .i64 q,.int .i64 m])) w=.ok (p == q && n == m) w:=by
 have h40:=Tryz.underlying41;have h3:=Tryz.underlying3;have hs':Tryz.prog.stoodInHeld 41=false:=by kernel_rfl
 rw [run_equalIn_struct w 9999 41 _ _ (by kernel_rfl) hs'];simp [go_sem,h40,h3,hs'];cases h1:(p == q) <;> cases h2:(n == m) <;> simp_all [go_sem]
end
section
variable {a c x y z:Int} {l l2 m:List Sib}
def Bef (s t:Sib):Prop:=s.p < t.p∨s.p=t.p∧s.n < t.n
theorem Bef.trans {s t u:Sib} (h:Bef s t) (k:Bef t u):Bef s u:=by unfold Bef at *; omega
theorem Bef.irrefl (s:Sib):¬ Bef s s:=by unfold Bef; omega
theorem Bef.asymm {s t:Sib} (h:Bef s t) (k:Bef t s):False:=by unfold Bef at *; omega
theorem wS_ {s t:Sib}:0 < z5_ t.p t.n s.p s.n↔Bef s t:=by
 unfold z5_ Bef; split <;> (try split) <;> (try split) <;> (try split) <;> omega
theorem wT_ {s t:Sib}:z5_ s.p s.n t.p t.n < 0↔Bef s t:=by
 unfold z5_ Bef; split <;> (try split) <;> (try split) <;> (try split) <;> omega
def Rise (l:List Sib):Prop:=l.Pairwise Bef
theorem Rise.tail {s:Sib} (h:Rise (s :: l)):Rise l:=(List.pairwise_cons.1 h).2
theorem Rise.head {s:Sib} (h:Rise (s :: l)):∀ t ∈ l,Bef s t:=(List.pairwise_cons.1 h).1
theorem Rise.filter (h:Rise l) (f:Sib->Bool):Rise (l.filter f):=List.Pairwise.sublist List.filter_sublist h
theorem ww_:∀ {l m:List Sib},Rise l->Rise m->(∀ s,s ∈ l↔s ∈ m)->l=m
 | [],[],_,_,_=>rfl
 | [],t :: m,_,_,h=>by have:=(h t).2 (by simp); simp at this
 | s :: l,[],_,_,h=>by have:=(h s).1 (by simp); simp at this
 | s :: l,t :: m,hl,hm,h=>by
  have e:s=t:=by
   have h1:=(h s).1 (by simp);have h2:=(h t).2 (by simp);rcases List.mem_cons.1 h1 with e | e
   ·exact e
   ·rcases List.mem_cons.1 h2 with e' | e'
    ·exact e'.symm
    ·exact ((hm.head s e).asymm (hl.head t e')).elim
  subst e;rw [ww_ hl.tail hm.tail (fun u=>?_)];constructor
  ·intro hu;rcases List.mem_cons.1 ((h u).1 (List.mem_cons_of_mem _ hu)) with e | e
   ·subst e; exact (Bef.irrefl _ (hl.head _ hu)).elim
   ·exact e
  ·intro hu;rcases List.mem_cons.1 ((h u).2 (List.mem_cons_of_mem _ hu)) with e | e
   ·subst e; exact (Bef.irrefl _ (hm.head _ hu)).elim
   ·exact e
def pt (x:Sib):List Sib->List Sib
 | []=>[x]
 | s :: l=>if z5_ s.p s.n x.p x.n < 0 then s :: pt x l else x :: s :: l
theorem wh_ {x s:Sib}:∀ {l:List Sib},s ∈ pt x l↔s=x∨s ∈ l
 | []=>by simp [pt]
 | t :: l=>by
  unfold pt;split
  ·rw [List.mem_cons,wh_,List.mem_cons];constructor
   ·rintro (h | h | h)
    ·exact .inr (.inl h)
    ·exact .inl h
    ·exact .inr (.inr h)
   ·rintro (h | h | h)
    ·exact .inr (.inl h)
    ·exact .inl h
    ·exact .inr (.inr h)
  ·rw [List.mem_cons]
theorem tK_ {x:Sib}:∀ {l:List Sib},Rise l->(∀ s ∈ l,¬ (s.p=x.p∧s.n=x.n))->Rise (pt x l)
 | [],_,_=>by simp [pt,Rise]
 | t :: l,h,hx=>by
  unfold pt;split
  ·next hd=>
   refine List.pairwise_cons.2 ⟨fun u hu=>?_,tK_ h.tail (fun s hs=>hx s (List.mem_cons_of_mem _ hs))⟩;rcases wh_.1 hu with e | e
   ·subst e; exact wT_.1 hd
   ·exact h.head u e
  ·next hd=>
   have hxt:Bef x t:=by
    have h1:=hx t (by simp);have h2:¬ Bef t x:=fun hb=>hd (wT_.2 hb)
    unfold Bef at *; omega
   refine List.pairwise_cons.2 ⟨fun u hu=>?_,h⟩;rcases List.mem_cons.1 hu with e | e
   ·subst e; exact hxt
   ·exact hxt.trans (h.head u e)
theorem oq_ (x:Sib):∀ (l:List Sib) (k:Nat),k<=l.length->(∀ i (h:i < l.length),i < k->z5_ l[i].p l[i].n x.p x.n < 0)->(∀ h:k < l.length,¬ z5_ l[k].p l[k].n x.p x.n < 0)->l.take k++x :: l.drop k=pt x l
 | [],k,hk,_,_=>by simp at hk; subst hk; rfl
 | t :: l,0,_,_,h2=>by
  have:=h2 (by simp)
  simp at this;unfold pt;rw [if_neg (by simpa using this)];rfl
 | t :: l,k+1,hk,h1,h2=>by
  have h0:=h1 0 (by simp) (by omega);unfold pt;rw [if_pos (by simpa using h0)]
  have:=oq_ x l k (by simpa using hk) (fun i h hi=>by have:=h1 (i+1) (by simpa using h) (by omega); simpa using this) (fun h=>by have:=h2 (by simpa using h); simpa using this)
  simp [this]
def pts (m r:List Sib):List Sib:=r.foldl (fun m s=>pt s m) m
theorem qi_ {s:Sib}:∀ {r m:List Sib},s ∈ pts m r↔s ∈ m∨s ∈ r
 | [],m=>by simp [pts]
 | x :: r,m=>by
  show s ∈ pts (pt x m) r↔_
  rw [qi_,wh_,List.mem_cons];constructor
  ·rintro ((h | h) | h)
   ·exact .inr (.inl h)
   ·exact .inl h
   ·exact .inr (.inr h)
  ·rintro (h | h | h)
   ·exact .inl (.inr h)
   ·exact .inl (.inl h)
   ·exact .inr h
theorem st_:∀ {r m:List Sib},Rise m->Rise r->(∀ s ∈ m,∀ t ∈ r,¬ (s.p=t.p∧s.n=t.n))->Rise (pts m r)
 | [],m,hm,_,_=>hm
 | x :: r,m,hm,hr,h=>by
  refine st_ (r:=r) (m:=pt x m) (tK_ hm (fun s hs=>h s hs x (by simp))) hr.tail (fun s hs t ht=>?_);rcases wh_.1 hs with e | e
  ·subst e
   have:=hr.head t ht
   unfold Bef at this;omega
  ·exact h s e t (List.mem_cons_of_mem _ ht)
theorem rd_ (m r:List Sib) (s:Sib):pts m (r++[s])=pt s (pts m r):=by simp [pts,List.foldl_append]
theorem tQ_:∀ (r m:List Sib),(pts m r).length=m.length+r.length
 | [],m=>by simp [pts]
 | x :: r,m=>by
  have hp:∀ (l:List Sib),(pt x l).length=l.length+1:=fun l=>by
   induction l with
   | nil=>rfl
   | cons t l ih=>unfold pt; split <;> simp [ih]
  show (pts (pt x m) r).length=_
  rw [tQ_,hp]; simp; omega
def vT_ (l:List Sib) (s:Sib):Bool:=l.any fun o=>decide (o.p=s.p∧o.n=s.n)
def stay (x y z:Int) (l l2:List Sib):List Sib:=l.filter fun s=>vT_ l2 s || !decide (s.n<=comp x y z s.p)
theorem vS_ {s:Sib}:vT_ l s=true↔∃ o ∈ l,o.p=s.p∧o.n=s.n:=by
 unfold vT_;simp [List.any_eq_true]
def sj (a b c x y z:Int) (l l2:List Sib):List Sib:=pts (stay x y z l l2) (fil a b c l2)
theorem sF_ {s:Sib}:s ∈ stay x y z l l2↔s ∈ l∧((∃ o ∈ l2,o.p=s.p∧o.n=s.n)∨¬ s.n<=comp x y z s.p):=by
 unfold stay;rw [List.mem_filter,Bool.or_eq_true,vS_];simp
theorem xr_ {b:Int} {s:Sib}:s ∈ fil a b c l↔s ∈ l∧¬ s.n<=comp a b c s.p:=by
 unfold fil;rw [List.mem_filter];simp
theorem sG_ {b:Int} {s:Sib}:s ∈ sj a b c x y z l l2↔(s ∈ l∧((∃ o ∈ l2,o.p=s.p∧o.n=s.n)∨¬ s.n<=comp x y z s.p))∨(s ∈ l2∧¬ s.n<=comp a b c s.p):=by
 unfold sj;rw [qi_,sF_,xr_]
theorem rW_ {b:Int} (h:Rise l) (h2:Rise l2) (hk:∀ s ∈ l,s.n<=comp a b c s.p):Rise (sj a b c x y z l l2):=by
 refine st_ (h.filter _) (h2.filter _) (fun s hs t ht e=>?_);have h1:=hk s (sF_.1 hs).1;have h3:=(xr_.1 ht).2;rw [<- e.1,<- e.2] at h3;exact h3 h1
theorem xw_ {b:Int} {s t:Sib}:t ∈ fil a b c [s]↔t=s∧¬ s.n<=comp a b c s.p:=by
 rw [xr_,List.mem_singleton];constructor
 ·rintro ⟨rfl,h⟩; exact ⟨rfl,h⟩
 ·rintro ⟨rfl,h⟩; exact ⟨rfl,h⟩
theorem nw_ {b:Int}:∀ (l l2:List Sib),Rise l->Rise l2->(∀ s ∈ l,s.n<=comp a b c s.p)->∀ s,s ∈ jn a b c x y z l l2↔(s ∈ l∧((∃ o ∈ l2,o.p=s.p∧o.n=s.n)∨¬ s.n<=comp x y z s.p))∨(s ∈ l2∧¬ s.n<=comp a b c s.p):=by
 intro l l2
 induction l,l2 using jn.induct with
 | case1 rest=>
  intro _ _ _ s;rw [jn,xr_];simp
 | case2 s l ih=>
  intro h h2 hk t;rw [jn,List.mem_append,ih h.tail h2 (fun u hu=>hk u (List.mem_cons_of_mem _ hu)),xw_];simp;constructor
  ·rintro (⟨rfl,h'⟩ | ⟨h1,h'⟩)
   ·exact ⟨.inl rfl,h'⟩
   ·exact ⟨.inr h1,h'⟩
  ·rintro ⟨rfl | h1,h'⟩
   ·exact .inl ⟨rfl,h'⟩
   ·exact .inr ⟨h1,h'⟩
 | case3 s l o rest hd ih=>
  intro h h2 hk t;have hso:=wS_.1 hd;rw [jn,if_pos hd,List.mem_append,ih h.tail h2 (fun u hu=>hk u (List.mem_cons_of_mem _ hu)),xw_]
  have hno:¬ ∃ o' ∈ o :: rest,o'.p=s.p∧o'.n=s.n:=by
   rintro ⟨o',ho,e⟩
   have hb:Bef s o':=by
    rcases List.mem_cons.1 ho with e' | e'
    ·rw [e']; exact hso
    ·exact hso.trans (h2.head o' e')
   unfold Bef at hb;omega
  constructor
  ·rintro (⟨rfl,h'⟩ | ⟨h1,h'⟩ | h')
   ·exact .inl ⟨by simp,.inr h'⟩
   ·exact .inl ⟨List.mem_cons_of_mem _ h1,h'⟩
   ·exact .inr h'
  ·rintro (⟨h1,h'⟩ | h')
   ·rcases List.mem_cons.1 h1 with e | e
    ·subst e;rcases h' with h' | h'
     ·exact (hno h').elim
     ·exact .inl ⟨rfl,h'⟩
    ·exact .inr (.inl ⟨e,h'⟩)
   ·exact .inr (.inr h')
 | case4 s l o rest hd he ih=>
  intro h h2 hk t;rw [jn,if_neg hd,if_pos he,List.mem_cons,ih h.tail h2.tail (fun u hu=>hk u (List.mem_cons_of_mem _ hu))]
  have hok:o.n<=comp a b c o.p:=by
   have:=hk s (by simp)
   rw [he.1,he.2]; exact this
  constructor
  ·rintro (rfl | ⟨h1,h'⟩ | ⟨h1,h'⟩)
   ·exact .inl ⟨by simp,.inl ⟨o,by simp,he⟩⟩
   ·refine .inl ⟨List.mem_cons_of_mem _ h1,?_⟩;rcases h' with ⟨o',ho,e⟩ | h'
    ·exact .inl ⟨o',List.mem_cons_of_mem _ ho,e⟩
    ·exact .inr h'
   ·exact .inr ⟨List.mem_cons_of_mem _ h1,h'⟩
  ·rintro (⟨h1,h'⟩ | ⟨h1,h'⟩)
   ·rcases List.mem_cons.1 h1 with e | e
    ·exact .inl e
    ·refine .inr (.inl ⟨e,?_⟩);rcases h' with ⟨o',ho,e'⟩ | h'
     ·rcases List.mem_cons.1 ho with e2 | e2
      ·subst e2;have hb:=h.head t e;unfold Bef at hb;omega
      ·exact .inl ⟨o',e2,e'⟩
     ·exact .inr h'
   ·rcases List.mem_cons.1 h1 with e | e
    ·subst e; exact (h' hok).elim
    ·exact .inr (.inr ⟨e,h'⟩)
 | case5 s l o rest hd he ih=>
  intro h h2 hk t;rw [jn,if_neg hd,if_neg he,List.mem_append,ih h h2.tail hk,xw_]
  have hos:Bef o s:=by
   have h1:¬ Bef s o:=fun hb=>hd (wS_.2 hb)
   unfold Bef at *; omega
  constructor
  ·rintro (⟨rfl,h'⟩ | ⟨h1,h'⟩ | ⟨h1,h'⟩)
   ·exact .inr ⟨by simp,h'⟩
   ·refine .inl ⟨h1,?_⟩;rcases h' with ⟨o',ho,e⟩ | h'
    ·exact .inl ⟨o',List.mem_cons_of_mem _ ho,e⟩
    ·exact .inr h'
   ·exact .inr ⟨List.mem_cons_of_mem _ h1,h'⟩
  ·rintro (⟨h1,h'⟩ | ⟨h1,h'⟩)
   ·refine .inr (.inl ⟨h1,?_⟩);rcases h' with ⟨o',ho,e'⟩ | h'
    ·rcases List.mem_cons.1 ho with e2 | e2
     ·subst e2
      have hb:Bef o' t:=by
       rcases List.mem_cons.1 h1 with e | e
       ·rw [e]; exact hos
       ·exact hos.trans (h.head t e)
      unfold Bef at hb;omega
     ·exact .inl ⟨o',e2,e'⟩
    ·exact .inr h'
   ·rcases List.mem_cons.1 h1 with e | e
    ·subst e; exact .inl ⟨rfl,h'⟩
    ·exact .inr (.inr ⟨e,h'⟩)
theorem v6_ (h:Rise l) (hm:Rise m) (hlm:∀ s ∈ l,∀ t ∈ m,Bef s t):Rise (l++m):=List.pairwise_append.2 ⟨h,hm,hlm⟩
theorem sP_ {b:Int}:∀ (l l2:List Sib),∀ s ∈ jn a b c x y z l l2,s ∈ l∨s ∈ l2:=by
 intro l l2
 induction l,l2 using jn.induct with
 | case1 rest=>intro s hs; rw [jn] at hs; exact .inr (xr_.1 hs).1
 | case2 s l ih=>
  intro t ht;rw [jn,List.mem_append,xw_] at ht;rcases ht with ⟨rfl,_⟩ | h
  ·exact .inl (by simp)
  ·rcases ih t h with h | h
   ·exact .inl (List.mem_cons_of_mem _ h)
   ·exact .inr h
 | case3 s l o rest hd ih=>
  intro t ht;rw [jn,if_pos hd,List.mem_append,xw_] at ht;rcases ht with ⟨rfl,_⟩ | h
  ·exact .inl (by simp)
  ·rcases ih t h with h | h
   ·exact .inl (List.mem_cons_of_mem _ h)
   ·exact .inr h
 | case4 s l o rest hd he ih=>
  intro t ht;rw [jn,if_neg hd,if_pos he,List.mem_cons] at ht;rcases ht with rfl | h
  ·exact .inl (by simp)
  ·rcases ih t h with h | h
   ·exact .inl (List.mem_cons_of_mem _ h)
   ·exact .inr (List.mem_cons_of_mem _ h)
 | case5 s l o rest hd he ih=>
  intro t ht;rw [jn,if_neg hd,if_neg he,List.mem_append,xw_] at ht;rcases ht with ⟨rfl,_⟩ | h
  ·exact .inr (by simp)
  ·rcases ih t h with h | h
   ·exact .inl h
   ·exact .inr (List.mem_cons_of_mem _ h)
theorem v5_ {f:Sib->Bool} {s:Sib}:Rise ([s].filter f):=Rise.filter (l:=[s]) (by simp [Rise]) f
theorem om_ {b:Int}:∀ (l l2:List Sib),Rise l->Rise l2->Rise (jn a b c x y z l l2):=by
 intro l l2
 induction l,l2 using jn.induct with
 | case1 rest=>intro _ h2; rw [jn]; exact h2.filter _
 | case2 s l ih=>
  intro h h2;rw [jn];refine v6_ v5_ (ih h.tail h2) (fun u hu t ht=>?_);rw [(xw_.1 hu).1];rcases sP_ _ _ t ht with h' | h'
  ·exact h.head t h'
  ·simp at h'
 | case3 s l o rest hd ih=>
  intro h h2;have hso:=wS_.1 hd;rw [jn,if_pos hd];refine v6_ v5_ (ih h.tail h2) (fun u hu t ht=>?_);rw [(xw_.1 hu).1];rcases sP_ _ _ t ht with h' | h'
  ·exact h.head t h'
  ·rcases List.mem_cons.1 h' with e | e
   ·rw [e]; exact hso
   ·exact hso.trans (h2.head t e)
 | case4 s l o rest hd he ih=>
  intro h h2;rw [jn,if_neg hd,if_pos he];refine List.pairwise_cons.2 ⟨fun t ht=>?_,ih h.tail h2.tail⟩;rcases sP_ _ _ t ht with h' | h'
  ·exact h.head t h'
  ·have:=h2.head t h'
   unfold Bef at *;omega
 | case5 s l o rest hd he ih=>
  intro h h2
  have hos:Bef o s:=by
   have h1:¬ Bef s o:=fun hb=>hd (wS_.2 hb)
   unfold Bef at *; omega
  rw [jn,if_neg hd,if_neg he];refine v6_ v5_ (ih h h2.tail) (fun u hu t ht=>?_);rw [(xw_.1 hu).1];rcases sP_ _ _ t ht with h' | h'
  ·rcases List.mem_cons.1 h' with e | e
   ·rw [e]; exact hos
   ·exact hos.trans (h.head t e)
  ·exact h2.head t h'
theorem nE_ {b:Int} (h:Rise l) (h2:Rise l2) (hk:∀ s ∈ l,s.n<=comp a b c s.p):jn a b c x y z l l2=sj a b c x y z l l2:=
 ww_ (om_ l l2 h h2) (rW_ h h2 hk) (fun s=>by rw [nw_ l l2 h h2 hk,sG_])
end
def wI_ (s:ByteArray) (k:Nat):Prop:=∀ (j:Nat) (h:j < s.size),j < k->97<=(s[j]'h).toNat∧(s[j]'h).toNat<=122
def keyP (s:ByteArray):Prop:=1<=s.size∧s.size<=6∧wI_ s s.size
theorem vM_ (s:ByteArray):wI_ s 0:=fun j _ h=>by omega
theorem vN_ (s:ByteArray) (k:Nat) (h:k < s.size) (hk:wI_ s k) (ho:97<=(s[k]'h).toNat∧(s[k]'h).toNat<=122):wI_ s (k+1):=by
 intro j hj h2;by_cases e:j=k
 ·subst e; exact ho
 ·exact hk j hj (by omega)
theorem qv_ (s:ByteArray) (b:Bool) (hb:Hid (b=true↔keyP s)) (h:¬ keyP s):b=false:=by
 cases b
 ·rfl
 ·exact (h (hb.out.1 rfl)).elim
theorem tc_ (s:ByteArray) (b:Bool) (hb:Hid (b=true↔keyP s)) (h:s.size < 1):b=false:=qv_ s b hb fun ⟨a,_⟩=>by omega
theorem sN_ (s:ByteArray) (b:Bool) (hb:Hid (b=true↔keyP s)) (h:6 < s.size):b=false:=qv_ s b hb fun ⟨_,a,_⟩=>by omega
theorem sM_ (s:ByteArray) (b:Bool) (hb:Hid (b=true↔keyP s)) (k:Nat) (h:k < s.size) (ho:¬ (97<=(s[k]'h).toNat∧(s[k]'h).toNat<=122)):b=false:=qv_ s b hb fun ⟨_,_,a⟩=>ho (a k h h)
theorem qu_ (s:ByteArray) (b:Bool) (hb:Hid (b=true↔keyP s)) (h:1<=s.size) (h6:s.size<=6) (k:Nat) (hk:s.size<=k) (ho:wI_ s k):b=true:=
 hb.out.2 ⟨h,h6,fun j hj _=>ho j hj (by omega)⟩
theorem oJ_ (s:ByteArray) (b:Bool) (hb:Hid (b=true↔keyP s)) (k:Nat) (hk:s.size<=k) (ho:wI_ s k):b=(decide ((1:Int)<=(s.size:Int)) && decide ((s.size:Int)<=6)):=by
 by_cases h1:1<=s.size
 ·by_cases h6:s.size<=6
  ·rw [qu_ s b hb h1 h6 k hk ho]; simp; omega
  ·rw [sN_ s b hb (by omega)]; simp; omega
 ·rw [tc_ s b hb (by omega)]; simp; omega
theorem nH_ (n lo hi:Int) (w:World) :
  Calls Tryz.prog 48 #[.int .i64 n,.int .i64 lo,.int .i64 hi] w fun e w'=>e=.returned (.bool (decide (lo<=n) && decide (n<=hi)))∧Below w.heap.size w w':=by
 by_cases h1:lo<=n <;> by_cases h2:n<=hi
 all_goals
  have e1:Hid (decide (lo<=n)=true↔lo<=n):=⟨fun h=>of_decide_eq_true h,fun h=>decide_eq_true h⟩;go_enter Tryz.func48,Tryz.ntmps48;go_wp2;go_ret;exact ⟨zi_ (by simp [h1,h2]),Below.refl _ _⟩
theorem wY_ (s:ByteArray) (b:Bool) (hb0:b=true↔keyP s) (w:World) (hs:s.size < 1099511627776) :
  Calls Tryz.prog 99 #[.string s] w fun e w'=>e=.returned (.bool b)∧Below w.heap.size w w':=by
 have hb:=hm_ hb0;clear hb0;go_enter Tryz.func99,Tryz.ntmps99;go_wp2;go_loopw [3] (fun s3 wr=>∃ i:Nat,i<=s.size∧s3=.int .i64 i∧wI_ s i∧wr=w) (fun s3 _=>s.size - (intOf s3).toNat)
 case atStart=>exact ⟨0,by omega,rfl,vM_ s,rfl⟩
 case round=>
  obtain ⟨i,hi,rfl,hk0,rfl⟩:=hrel;have hk:Hid (wI_ s i):=hk0;clear hk0;have kk:(0:Int)<=(i:Int):=by omega
  by_cases hlt:i < s.size
  ·have hlt':(i:Int) < (s.size:Int):=by omega
   obtain ⟨c,hc⟩:∃ c:Nat,c=(s[i]'hlt).toNat:=⟨_,rfl⟩;have hgi:∀ h:i < s.size,((s[i]'h).toNat:Int)=(c:Int):=fun h=>by rw [hc]
   have hc256:c < 256:=by rw [hc]; exact (s[i]'hlt).toNat_lt
   have HC:=hm_ hc;clear hc;by_cases h1:c < 97
   ·have h1':(c:Int) < 97:=by omega
    have HB:Hid (b=false):=sM_ s b hb i hlt (by rw [<- HC.out]; omega);go_wp2;go_ret;exact ⟨zi_ HB.out.symm,Below.refl _ _⟩
   ·have h1':¬ (c:Int) < 97:=by omega
    by_cases h2:122 < c
    ·have h2':122 < (c:Int):=by omega
     have HB:Hid (b=false):=sM_ s b hb i hlt (by rw [<- HC.out]; omega);go_wp2;go_ret;exact ⟨zi_ HB.out.symm,Below.refl _ _⟩
    ·have h2':¬ 122 < (c:Int):=by omega
     have HN:Hid (wI_ s (i+1)):=vN_ s i hlt hk.out (by rw [<- HC.out]; omega);go_wp2
     go_roundw
     case rel=>exact ⟨i+1,by omega,by go_num,HN.out,by first | rfl | trivial⟩
     case measure=>simp [intOf]; omega
  ·have hlt':¬ (i:Int) < (s.size:Int):=by omega
   have HE:Hid (i=s.size):=(show i=s.size by omega);have HB:Hid (b=(decide ((1:Int)<=(s.size:Int)) && decide ((s.size:Int)<=6))):=oJ_ s b hb i (by rw [HE.out]; exact Nat.le_refl _) hk.out;go_wp2_with fail;refine (nH_ _ _ _ _).mono ?_;rintro e w1 ⟨rfl,hb1⟩;go_wp2;go_ret;exact ⟨zi_ HB.out.symm,hb1⟩
theorem x6_ (s:ByteArray) (b:Bool) (hb0:b=true↔keyP s) (w:World) (hs:s.size < 1099511627776) :
  Calls Tryz.prog 85 #[.string s] w fun e w'=>e=.returned (.bool b)∧Below w.heap.size w w':=by
 have hb:=hm_ hb0;clear hb0;by_cases h0:s.size < 1
 ·have HB:Hid (b=false):=tc_ s b hb h0;have h0':((s.size:Int)) < 1:=by omega
  go_enter Tryz.func85,Tryz.ntmps85;go_wp2;go_ret;exact ⟨zi_ HB.out.symm,Below.refl _ _⟩
 by_cases h40:6 < s.size
 ·have HB:Hid (b=false):=sN_ s b hb h40;have h0':¬ ((s.size:Int)) < 1:=by omega
  have h40':6 < (s.size:Int):=by omega
  go_enter Tryz.func85,Tryz.ntmps85;go_wp2;go_ret;exact ⟨zi_ HB.out.symm,Below.refl _ _⟩
 have h0':¬ ((s.size:Int)) < 1:=by omega
 have h40':¬ 6 < (s.size:Int):=by omega
 have H0:Hid (1<=s.size):=(show 1<=s.size by omega);have H6:Hid (s.size<=6):=(show s.size<=6 by omega);go_enter Tryz.func85,Tryz.ntmps85;go_wp2;go_loopw [3,14] (fun s3 s14 wr=>∃ i:Nat,i<=s.size∧s14=.int .i64 i∧wI_ s i∧wr=w) (fun _ s14 _=>s.size - (intOf s14).toNat)
 case atStart=>exact ⟨0,by omega,rfl,vM_ s,rfl⟩
 case round=>
  obtain ⟨i,hi,rfl,hk0,rfl⟩:=hrel;have hk:Hid (wI_ s i):=hk0;clear hk0;have kk:(0:Int)<=(i:Int):=by omega
  by_cases hlt:i < s.size
  ·have hlt':(i:Int) < (s.size:Int):=by omega
   obtain ⟨c,hc⟩:∃ c:Nat,c=(s[i]'hlt).toNat:=⟨_,rfl⟩;have hgi:∀ h:i < s.size,((s[i]'h).toNat:Int)=(c:Int):=fun h=>by rw [hc]
   have hc256:c < 256:=by rw [hc]; exact (s[i]'hlt).toNat_lt
   have HC:=hm_ hc;clear hc;by_cases h1:c < 97
   ·have h1':(c:Int) < 97:=by omega
    have HB:Hid (b=false):=sM_ s b hb i hlt (by rw [<- HC.out]; omega);go_wp2;go_ret;exact ⟨zi_ HB.out.symm,Below.refl _ _⟩
   ·have h1':¬ (c:Int) < 97:=by omega
    by_cases h2:122 < c
    ·have h2':122 < (c:Int):=by omega
     have HB:Hid (b=false):=sM_ s b hb i hlt (by rw [<- HC.out]; omega);go_wp2;go_ret;exact ⟨zi_ HB.out.symm,Below.refl _ _⟩
    ·have h2':¬ 122 < (c:Int):=by omega
     have HN:Hid (wI_ s (i+1)):=vN_ s i hlt hk.out (by rw [<- HC.out]; omega);go_wp2
     go_roundw
     case rel=>exact ⟨i+1,by omega,by go_num,HN.out,by first | rfl | trivial⟩
     case measure=>simp [intOf]; omega
  ·have hlt':¬ (i:Int) < (s.size:Int):=by omega
   have HE:Hid (i=s.size):=(show i=s.size by omega);have HB:Hid (b=true):=qu_ s b hb H0.out H6.out i (by rw [HE.out]; exact Nat.le_refl _) hk.out;go_wp2;go_ret;exact ⟨zi_ HB.out.symm,Below.refl _ _⟩
theorem specBucket_any (s:ByteArray) (w:World) (hs:s.size < 1099511627776) :
  Calls Tryz.prog 136 #[.string s] w fun e w'=>e=.returned (.int .i64 ((yu_ s s.size % 4:Nat):Int))∧Below w.heap.size w w':=by
 obtain ⟨n,hn⟩:∃ n,n=yu_ s s.size:=⟨_,rfl⟩;have hnb:n < 9973:=by rw [hn]; exact yW_ s s.size
 have C:=wX_ s w hs;rw [<- hn] at C ⊢;have C':Hid _:=C;clear C hn;have q3:((n:Int)).tmod 4=((n % 4:Nat):Int):=by rw [Int.tmod_eq_emod_of_nonneg (by omega)]; rfl
 have q4:IntKind.i64.wrap ((n % 4:Nat):Int)=((n % 4:Nat):Int):=by rw [IntKind.wrap_i64]; omega
 obtain ⟨m,hm⟩:∃ m,m=n % 4:=⟨_,rfl⟩;rw [<- hm] at q3 q4 ⊢;clear hm;go_enter Tryz.func136,Tryz.ntmps136;go_wp2_with fail;refine (Calls.mono C'.out ?_);rintro e w1 ⟨rfl,hb⟩;go_wp2;go_ret;exact ⟨by first | rfl | simp,hb⟩
theorem implBucket_any (s:ByteArray) (w:World) (hs:s.size < 1099511627776) :
  Calls Tryz.prog 78 #[.string s] w fun e w'=>e=.returned (.int .i64 ((yu_ s s.size % 4:Nat):Int))∧Below w.heap.size w w':=by
 obtain ⟨n,hn⟩:∃ n,n=yu_ s s.size:=⟨_,rfl⟩;have hnb:n < 9973:=by rw [hn]; exact yW_ s s.size
 have C:=vf_ s w hs;rw [<- hn] at C ⊢;have C':Hid _:=C;clear C hn;have q3:((n:Int)).tmod 4=((n % 4:Nat):Int):=by rw [Int.tmod_eq_emod_of_nonneg (by omega)]; rfl
 have q4:IntKind.i64.wrap ((n % 4:Nat):Int)=((n % 4:Nat):Int):=by rw [IntKind.wrap_i64]; omega
 obtain ⟨m,hm⟩:∃ m,m=n % 4:=⟨_,rfl⟩;rw [<- hm] at q3 q4 ⊢;clear hm;go_enter Tryz.func78,Tryz.ntmps78;go_wp2_with fail;refine (Calls.mono C'.out ?_);rintro e w1 ⟨rfl,hb⟩;go_wp2;go_ret;exact ⟨by first | rfl | simp,hb⟩
def KfI (s:ByteArray) (b:Bool):Int:=if 65536 < s.size then 2 else if b then 0 else 8
theorem implFault_any (s:ByteArray) (b:Bool) (hb0:b=true↔keyP s) (w:World) (hs:s.size < 1099511627776) :
  Calls Tryz.prog 77 #[.string s] w fun e w'=>e=.returned (.int .i64 (KfI s b))∧Below w.heap.size w w':=by
 by_cases h:65536 < s.size
 ·have h':(65536:Int) < (s.size:Int):=by omega
  have HV:Hid (KfI s b=2):=if_pos h;rw [HV.out];go_enter Tryz.func77,Tryz.ntmps77;go_wp2;go_ret;exact ⟨by first | rfl | simp,Below.refl _ _⟩
 ·have h':¬ (65536:Int) < (s.size:Int):=by omega
  have C1':Hid _:=fun w=>x6_ s b hb0 w hs
  cases b with
  | false=>
   have HV:Hid (KfI s false=8):=by show KfI s false=_; unfold KfI; rw [if_neg h]; rfl
   rw [HV.out];clear hb0;go_enter Tryz.func77,Tryz.ntmps77;go_wp2_with fail;refine (Calls.mono (C1'.out _) ?_);rintro e w1 ⟨rfl,hb⟩;go_wp2;go_ret;exact ⟨by first | rfl | simp,hb⟩
  | true=>
   have HV:Hid (KfI s true=0):=by show KfI s true=_; unfold KfI; rw [if_neg h]; rfl
   rw [HV.out];clear hb0;go_enter Tryz.func77,Tryz.ntmps77;go_wp2_with fail;refine (Calls.mono (C1'.out _) ?_);rintro e w1 ⟨rfl,hb⟩;go_wp2;go_ret;exact ⟨by first | rfl | simp,hb⟩
theorem y2_ (cap cp:Nat) (ao bo:Option Addr) (l l2:List Sib) (a b c x y z:Int) (r:Bool) (hres:Hid (r=true↔Same l l2 a b c x y z)) (w:World) (hm:(l.length:Int)<=1048576) (hm2:(l2.length:Int)<=1048576) (hr0:zk_ w ao l) (hs0:zk_ w bo l2) :
  Calls Tryz.prog 69 #[.agg #[.slice ao l.length cap,.int .i64 a,.int .i64 b,.int .i64 c],.agg #[.slice bo l2.length cp,.int .i64 x,.int .i64 y,.int .i64 z]] w fun e w'=>e=.returned (.bool r)∧Below w.heap.size w w':=by
 have hr:Hid (zk_ w ao l):=hr0;have hs:Hid (zk_ w bo l2):=hs0;clear hr0 hs0;have ev:=eqv a b c x y z;cases heb:(a == x && (b == y && c == z))
 ·have HR:Hid (r=false):=z1_ hres (fun h=>by rw [h.1] at heb; cases heb);rw [heb] at ev;clear heb;go_enter Tryz.func69,Tryz.ntmps69;go_wp2;go_ret;refine ⟨zi_ HR.out.symm,?_⟩
  repeat (first | exact Below.refl _ _ | refine Below.drew ?_ | refine below_drewN ?_ _ | refine Below.alloc ?_ (by first | (simp; done) | (simp; omega)) _ | refine Below.setCell ?_ (by first | (simp; done) | (simp; omega)) _)
 rw [heb] at ev;have HE:=hm_ heb;clear heb;by_cases hll:l.length=l2.length
 case neg=>
  have HR:Hid (r=false):=z1_ hres (fun h=>hll h.2.1);have hne:((l.length:Int) == (l2.length:Int))=false:=beq_eq_false_iff_ne.2 (by omega);clear hll;go_enter Tryz.func69,Tryz.ntmps69;go_wp2;go_ret;refine ⟨zi_ HR.out.symm,?_⟩
  repeat (first | exact Below.refl _ _ | refine Below.drew ?_ | refine below_drewN ?_ _ | refine Below.alloc ?_ (by first | (simp; done) | (simp; omega)) _ | refine Below.setCell ?_ (by first | (simp; done) | (simp; omega)) _)
 have heq:((l.length:Int) != (l2.length:Int))=false:=by simp; omega
 have HL:=hm_ hll;clear hll;go_enter Tryz.func69,Tryz.ntmps69;go_wp2;clear ev;go_loopw [24] (fun s24 wr=>∃ k:Nat,k<=l.length∧s24=.int .i64 k∧Below w.heap.size w wr∧(∀ i (h:i < l.length) (h2:i < l2.length),i < k->sibB l[i] l2[i]=true)∧w.heap.size+1 < wr.heap.size∧wr.cell? ⟨w.heap.size+1,0,none⟩=some (.slice bo l2.length cp)) (fun s24 _=>l.length - (intOf s24).toNat)
 case atStart=>exact ⟨0,by omega,rfl,(((Below.refl _ _).alloc (Nat.le_refl _) _).alloc (by simp) _),fun i h h2 h3=>by omega,by simp,by go_simp⟩
 case round=>
  obtain ⟨k,hk,rfl,hB0,hA0,hz,b1⟩:=hrel;have hB:=hm_ hB0;have hA:=hm_ hA0;have B1:=hm_ b1;clear hB0 hA0;by_cases hkl:k < l.length
  ·have hkl2:k < l2.length:=by have:=HL.out; omega
   have hkl':(k:Int) < (l.length:Int):=by omega
   have hkl3:(k:Int) < (l2.length:Int):=by omega
   rcases hr.out with h' | ⟨p,off,rfl,h2⟩
   ·rw [h'] at hkl; simp at hkl
   rcases hs.out with h' | ⟨q,oft,rfl,h3⟩
   ·rw [h'] at hkl2; simp at hkl2
   obtain ⟨x0,x1,x2,x3⟩:=(h2 k hkl).next hB.out (zh_ (x:=⟨p,off+k * 4,none⟩) (h2 k hkl).1);obtain ⟨y0,y1,y2,y3⟩:=(h3 k hkl2).next hB.out (zh_ (x:=⟨q,oft+k * 4,none⟩) (h3 k hkl2).1);have hq:=zh_ (x:=⟨q,oft+k * 4,none⟩) y0;have hq':q < wr.heap.size:=hq;have B2:∀ o,(wr.alloc o).cell? ⟨w.heap.size+1,0,none⟩=some (.slice (some ⟨q,oft,none⟩) l2.length cp):=fun o=>zj_ b1 hz
   have Y0:∀ o,(wr.alloc o).cell? ⟨q,oft+k * 4,none⟩=some (.int .i64 l2[k].p):=fun o=>zj_ y0 hq'
   have Y1:∀ o,(wr.alloc o).cell? ⟨q,oft+k * 4+1,none⟩=some (.int .i64 l2[k].n):=fun o=>zj_ y1 hq'
   have Y2:∀ o,(wr.alloc o).cell? ⟨q,oft+k * 4+2,none⟩=some (.int .i64 l2[k].v):=fun o=>zj_ y2 hq'
   have Y3:∀ o,(wr.alloc o).cell? ⟨q,oft+k * 4+3,none⟩=some (.bool l2[k].d):=fun o=>zj_ y3 hq'
   have es:=eqs l[k] l2[k];have k0:(0:Int)<=(k:Int):=by omega
   have hz2:=hm_ hz;clear h2 h3 y0 y1 y2 y3 hq hq' b1;cases hsb:sibB l[k] l2[k]
   ·have HR:Hid (r=false):=z1_ hres (fun h=>by rw [h.2.2 k hkl hkl2] at hsb; cases hsb);rw [hsb] at es;clear hsb;go_wp2
    go_quiet (fail)
    go_wp2;go_ret;exact ⟨zi_ HR.out.symm,below_drewN (hB.out.alloc (by omega) _) _⟩
   ·rw [hsb] at es;have HS:=hm_ hsb;clear hsb;go_wp2
    go_quiet (fail)
    go_wp2
    have hA1:∀ i (h:i < l.length) (h2:i < l2.length),i < k+1->sibB l[i] l2[i]=true:=fun i h h2 h3=>by
     by_cases e:i=k
     ·subst e; exact HS.out
     ·exact hA.out i h h2 (by omega)
    have hz3:=hz2.out
    go_roundw
    case rel=>first | exact ⟨k+1,by omega,by go_num,below_drewN (hB.out.alloc (by omega) _) _,hA1,by simp; omega,B2 _⟩ | ((repeat apply Exists.intro); exact ⟨⟨k+1,by omega,by go_num,below_drewN (hB.out.alloc (by omega) _) _,hA1,by simp; omega,B2 _⟩,rfl⟩)
    case measure=>simp [intOf]; omega
  ·have hkl':¬ (k:Int) < (l.length:Int):=by omega
   have HR:Hid (r=true):=wt_ hres ⟨HE.out,HL.out,fun i h h2=>hA.out i h h2 (by omega)⟩;go_wp2;go_ret;exact ⟨zi_ HR.out.symm,hB.out⟩
section
variable {V':Int->Int->Int × Bool} {a c m0 m1 m2 x y z:Int}
structure Rp (V:Int->Int->Int × Bool) (k0 k1 k2:Int) (l:List Sib) (a b c:Int):Prop where
 rise:Rise l
 ok:∀ s ∈ l,zW_ s.p s.n s.v s.d=true∧s.n<=comp a b c s.p
 pos:0<=a∧0<=b∧0<=c
 le:a<=k0∧b<=k1∧c<=k2
 val:∀ s ∈ l,(s.v,s.d)=V s.p s.n
theorem pS_ (a b c x y z p:Int):comp (max a x) (max b y) (max c z) p=max (comp a b c p) (comp x y z p):=by
 unfold comp;split
 ·rfl
 ·split <;> rfl
theorem x4_ {b p n:Int}:n<=comp (max a x) (max b y) (max c z) p↔n<=comp a b c p∨n<=comp x y z p:=by
 rw [pS_]; omega
theorem uM_ {p n v:Int} {d:Bool} (h:zW_ p n v d=true):0<=p∧p < 3∧1<=n∧n<=9999:=by
 unfold zW_ dotB at h;simp at h;omega
theorem vF_:∀ (l:List Sib) (m:Int),Rise l->(∀ s ∈ l,0<=s.p∧s.p < 3∧1<=s.n∧s.n<=17)->(∀ s ∈ l,m<=17 * s.p+s.n)->m<=52->(l.length:Int)<=52 - m
 | [],m,_,_,_,hm=>by simp; omega
 | s :: l,m,hr,hb,hg,hm=>by
  have h1:=hb s (List.mem_cons_self ..);have h2:=hg s (List.mem_cons_self ..)
  have ih:=vF_ l (17 * s.p+s.n+1) hr.tail (fun t ht=>hb t (List.mem_cons_of_mem _ ht)) (fun t ht=>by
   have h3:=hr.head t ht;have h4:=hb t (List.mem_cons_of_mem _ ht);unfold Bef at h3
   rcases h3 with h3 | ⟨h3,h5⟩ <;> omega) (by omega)
  simp only [List.length_cons];omega
theorem qO_ {b k0 k1 k2 m p:Int} (h:a<=k0∧b<=k1∧c<=k2) (h0:k0<=m) (h1:k1<=m) (h2:k2<=m):comp a b c p<=m:=by
 unfold comp;split
 ·omega
 ·split <;> omega
theorem z2_ {b k0 k1 k2 p:Int} (h:a<=k0∧b<=k1∧c<=k2):comp a b c p<=comp k0 k1 k2 p:=by
 unfold comp;split
 ·omega
 ·split <;> omega
section
variable {V:Int->Int->Int × Bool} {k0 k1 k2:Int} {l l2 l3:List Sib} {a b c x y z u v t:Int}
theorem Rp.len (h:Rp V k0 k1 k2 l a b c) (h0:k0<=17) (h1:k1<=17) (h2:k2<=17):l.length<=51:=by
 have:=vF_ l 1 h.rise (fun s hs=>by
  have e:=uM_ (h.ok s hs).1;have f:=(h.ok s hs).2;have g:=qO_ (p:=s.p) h.le h0 h1 h2;omega) (fun s hs=>by
  have e:=uM_ (h.ok s hs).1
  omega) (by omega)
 omega
theorem Rp.one {a' b' c':Int} (h:Rp V k0 k1 k2 l a b c) (h2:Rp V k0 k1 k2 l2 a' b' c') {s o:Sib} (hs:s ∈ l) (ho:o ∈ l2) (hp:o.p=s.p) (hn:o.n=s.n):o=s:=by
 have e1:=h.val s hs;have e2:=h2.val o ho;rw [hp,hn,<- e1] at e2;obtain ⟨p1,n1,v1,d1⟩:=s;obtain ⟨p2,n2,v2,d2⟩:=o;simp only [Prod.mk.injEq] at e2 hp hn;obtain ⟨e3,e4⟩:=e2;subst hp hn e3 e4;rfl
theorem Rp.mem (h:Rp V k0 k1 k2 l a b c) (h2:Rp V k0 k1 k2 l2 x y z) {s:Sib}:s ∈ sj a b c x y z l l2↔(s ∈ l∧(s ∈ l2∨¬ s.n<=comp x y z s.p))∨(s ∈ l2∧¬ s.n<=comp a b c s.p):=by
 rw [sG_];constructor
 ·rintro (⟨hs,⟨o,ho,hp,hn⟩ | hk⟩ | hs)
  ·exact .inl ⟨hs,.inl (by rw [<- h.one h2 hs ho hp hn]; exact ho)⟩
  ·exact .inl ⟨hs,.inr hk⟩
  ·exact .inr hs
 ·rintro (⟨hs,ho | hk⟩ | hs)
  ·exact .inl ⟨hs,.inl ⟨s,ho,rfl,rfl⟩⟩
  ·exact .inl ⟨hs,.inr hk⟩
  ·exact .inr hs
theorem Rp.known (h:Rp V k0 k1 k2 l a b c):∀ s ∈ l,s.n<=comp a b c s.p:=fun s hs=>(h.ok s hs).2
theorem Rp.join (h:Rp V k0 k1 k2 l a b c) (h2:Rp V k0 k1 k2 l2 x y z):Rp V k0 k1 k2 (sj a b c x y z l l2) (max a x) (max b y) (max c z):=by
 have p1:=h.pos;have p2:=h2.pos;have q1:=h.le;have q2:=h2.le;refine ⟨rW_ h.rise h2.rise h.known,fun s hs=>?_,by omega,by omega,fun s hs=>?_⟩
 ·rw [x4_];rcases sG_.1 hs with ⟨hs,_⟩ | ⟨hs,_⟩
  ·exact ⟨(h.ok s hs).1,.inl (h.ok s hs).2⟩
  ·exact ⟨(h2.ok s hs).1,.inr (h2.ok s hs).2⟩
 ·rcases sG_.1 hs with ⟨hs,_⟩ | ⟨hs,_⟩
  ·exact h.val s hs
  ·exact h2.val s hs
theorem Rp.comm (h:Rp V k0 k1 k2 l a b c) (h2:Rp V k0 k1 k2 l2 x y z):sj a b c x y z l l2=sj x y z a b c l2 l:=by
 refine ww_ (h.join h2).rise (h2.join h).rise fun s=>?_
 rw [h.mem h2,h2.mem h];by_cases e1:s ∈ l <;> by_cases e2:s ∈ l2 <;> by_cases e3:s.n<=comp a b c s.p <;> by_cases e4:s.n<=comp x y z s.p <;> simp [e1,e2,e3,e4]
theorem Rp.again (h:Rp V k0 k1 k2 l a b c) (h2:Rp V k0 k1 k2 l2 x y z):sj (max a x) (max b y) (max c z) x y z (sj a b c x y z l l2) l2=sj a b c x y z l l2:=by
 refine ww_ ((h.join h2).join h2).rise (h.join h2).rise fun s=>?_
 rw [(h.join h2).mem h2,h.mem h2,x4_];have f1:=h.known s;have f2:=h2.known s;by_cases e1:s ∈ l <;> by_cases e2:s ∈ l2 <;> by_cases e4:s.n<=comp a b c s.p <;> by_cases e5:s.n<=comp x y z s.p <;> simp [e1,e2,e4,e5] at f1 f2 ⊢
theorem Rp.again0 (h:Rp V k0 k1 k2 l a b c) (h2:Rp V k0 k1 k2 l2 x y z):sj (max a x) (max b y) (max c z) a b c (sj a b c x y z l l2) l=sj a b c x y z l l2:=by
 refine ww_ ((h.join h2).join h).rise (h.join h2).rise fun s=>?_
 rw [(h.join h2).mem h,h.mem h2,x4_];have f1:=h.known s;have f2:=h2.known s;by_cases e1:s ∈ l <;> by_cases e2:s ∈ l2 <;> by_cases e4:s.n<=comp a b c s.p <;> by_cases e5:s.n<=comp x y z s.p <;> simp [e1,e2,e4,e5] at f1 f2 ⊢
theorem Rp.more (h:Rp V k0 k1 k2 l a b c) (hk:k0<=m0∧k1<=m1∧k2<=m2) (hV:∀ p n,n<=comp k0 k1 k2 p->V' p n=V p n):Rp V' m0 m1 m2 l a b c:=by
 have q:=h.le;refine ⟨h.rise,h.ok,h.pos,by omega,fun s hs=>?_⟩;rw [hV]
 ·exact h.val s hs
 ·exact Int.le_trans (h.ok s hs).2 (z2_ h.le)
theorem Rp.write {P Q R:Int} {s:Sib} (h:Rp V k0 k1 k2 l a b c) (hk:k0<=m0∧k1<=m1∧k2<=m2) (hV:∀ p n,n<=comp k0 k1 k2 p->V' p n=V p n)
  (hs:zW_ s.p s.n s.v s.d=true) (hn:comp k0 k1 k2 s.p < s.n) (hv:(s.v,s.d)=V' s.p s.n)
  (hP:a<=P∧b<=Q∧c<=R) (hQ:P<=m0∧Q<=m1∧R<=m2) (hR:s.n<=comp P Q R s.p):Rp V' m0 m1 m2 (pt s (fil x y z l)) P Q R:=by
 have q:=h.pos;have h':=h.more hk hV;refine ⟨tK_ (h.rise.filter _) (fun o ho e=>?_),fun o ho=>?_,by omega,hQ,fun o ho=>?_⟩
 ·have ho':=(xr_.1 ho).1;have e1:=(h.ok o ho').2;have e2:=z2_ (p:=o.p) h.le;rw [e.1,e.2] at e1;rw [e.1] at e2;omega
 ·rcases wh_.1 ho with rfl | ho
  ·exact ⟨hs,hR⟩
  ·have ho':=(xr_.1 ho).1;exact ⟨(h.ok o ho').1,Int.le_trans (h.ok o ho').2 (z2_ hP)⟩
 ·rcases wh_.1 ho with rfl | ho
  ·exact hv
  ·exact h'.val o (xr_.1 ho).1
end
end
section
variable {V':Int->Int->Int × Bool} {m0 m1 m2:Int}
section
variable {V:Int->Int->Int × Bool} {k0 k1 k2:Int} {l l2:List Sib} {a b c x y z P Q R:Int} {s:Sib}
theorem Rp.write_covers (h:Rp V k0 k1 k2 l a b c) (hk:k0<=m0∧k1<=m1∧k2<=m2) (hV:∀ p n,n<=comp k0 k1 k2 p->V' p n=V p n)
  (hs:zW_ s.p s.n s.v s.d=true) (hn:comp k0 k1 k2 s.p < s.n) (hv:(s.v,s.d)=V' s.p s.n)
  (hP:a<=P∧b<=Q∧c<=R) (hX:x<=P∧y<=Q∧z<=R) (hQ:P<=m0∧Q<=m1∧R<=m2) (hR:s.n<=comp P Q R s.p) :
  sj P Q R a b c (pt s (fil x y z l)) l=pt s (fil x y z l)∧max P a=P∧max Q b=Q∧max R c=R:=by
 have h1:=h.write (x:=x) (y:=y) (z:=z) hk hV hs hn hv hP hQ hR;have h2:=h.more hk hV;refine ⟨ww_ (h1.join h2).rise h1.rise fun t=>?_,by omega,by omega,by omega⟩;rw [h1.mem h2,wh_,xr_];have f1:=h.known t;have g1:=z2_ (p:=t.p) hP;have g2:=z2_ (p:=t.p) hX;constructor
 ·rintro (⟨ht,_⟩ | ⟨ht,hu⟩)
  ·exact ht
  ·exact absurd (Int.le_trans (f1 ht) g1) hu
 ·rintro (rfl | ⟨ht,hu⟩)
  ·refine .inl ⟨.inl rfl,.inr fun e=>?_⟩
   have:=z2_ (p:=t.p) h.le
   omega
  ·exact .inl ⟨.inr ⟨ht,hu⟩,.inl ht⟩
theorem tw_ (h:Rp V k0 k1 k2 l a b c) (hn:comp k0 k1 k2 s.p < s.n):pt s (fil x y z l)≠l:=fun e=>by
 have h1:s ∈ l:=by
  rw [<- e];exact wh_.2 (.inl rfl)
 have h2:=h.known s h1;have h3:=z2_ (p:=s.p) h.le;omega
theorem rz_:s ∈ pt s (fil x y z l):=wh_.2 (.inl rfl)
end
end
section
variable {s:ByteArray}
structure Cl where
 k:ByteArray
 l:List Sib
 a:Int
 b:Int
 c:Int
variable {rs:List (Bool × Cl)}
structure En where
 p:Int
 n:Int
 k:ByteArray
def kb (s:ByteArray):List UInt8:=s.data.toList
theorem qy_ {t:ByteArray} (h:kb s=kb t):s=t:=ByteArray.ext (Array.toList_inj.1 h)
def Up (cs:List Cl):Prop:=cs.Pairwise (fun x y=>kb x.k < kb y.k)
def setC (x:Cl):List Cl->List Cl
 | []=>[x]
 | y :: ys=>if kb y.k < kb x.k then y :: setC x ys else if y.k=x.k then x :: ys else x :: y :: ys
def getC (k:ByteArray):List Cl->Option Cl
 | []=>none
 | y :: ys=>if y.k=k then some y else getC k ys
def atC (k:ByteArray) (cs:List Cl):Cl:=(getC k cs).getD ⟨k,[],0,0,0⟩
theorem nC_ (s t:ByteArray) (h:¬ kb s < kb t) (hne:s≠t):kb t < kb s:=by
 rcases Decidable.em (kb t < kb s) with h' | h'
 ·exact h'
 ·exact absurd (qy_ (List.le_antisymm (List.not_lt.1 h') (List.not_lt.1 h))) hne
theorem us_:∀ {cs:List Cl} {k:ByteArray} {c:Cl},getC k cs=some c->c ∈ cs∧c.k=k
 | [],_,_,h=>by cases h
 | y :: ys,k,c,h=>by
  unfold getC at h;split at h
  ·cases h;exact ⟨List.mem_cons_self ..,by assumption⟩
  ·have:=us_ h
   exact ⟨List.mem_cons_of_mem _ this.1,this.2⟩
theorem q1_ (k:ByteArray) (cs:List Cl):(atC k cs).k=k:=by
 unfold atC;cases h:getC k cs with
 | none=>rfl
 | some c=>exact (us_ h).2
theorem o9_ {k:ByteArray} {cs:List Cl}:atC k cs ∈ cs∨atC k cs=⟨k,[],0,0,0⟩:=by
 unfold atC;cases h:getC k cs with
 | none=>exact .inr rfl
 | some c=>exact .inl (us_ h).1
theorem xT_:∀ {cs:List Cl} {x c:Cl},c ∈ setC x cs->c=x∨c ∈ cs
 | [],x,c,h=>by simp [setC] at h; exact .inl h
 | y :: ys,x,c,h=>by
  unfold setC at h;split at h
  ·rcases List.mem_cons.1 h with rfl | h
   ·exact .inr (List.mem_cons_self ..)
   ·rcases xT_ h with h | h
    ·exact .inl h
    ·exact .inr (List.mem_cons_of_mem _ h)
  ·split at h
   ·rcases List.mem_cons.1 h with h | h
    ·exact .inl h
    ·exact .inr (List.mem_cons_of_mem _ h)
   ·rcases List.mem_cons.1 h with h | h
    ·exact .inl h
    ·exact .inr h
theorem um_:∀ {cs:List Cl} {x:Cl},x ∈ setC x cs
 | [],x=>by simp [setC]
 | y :: ys,x=>by
  unfold setC;split
  ·exact List.mem_cons_of_mem _ um_
  ·split <;> exact List.mem_cons_self ..
theorem v1_:∀ {cs:List Cl} {x:Cl},Up cs->Up (setC x cs)
 | [],x,_=>by simp [setC,Up]
 | y :: ys,x,h=>by
  have h':=List.pairwise_cons.1 h;unfold setC;split
  ·rename_i hlt
   refine List.pairwise_cons.2 ⟨fun c hc=>?_,v1_ h'.2⟩;rcases xT_ hc with rfl | hc
   ·exact hlt
   ·exact h'.1 c hc
  ·rename_i hlt
   split
   ·rename_i he
    refine List.pairwise_cons.2 ⟨fun c hc=>?_,h'.2⟩;rw [<- he];exact h'.1 c hc
   ·rename_i he
    have hxy:=nC_ _ _ hlt he;refine List.pairwise_cons.2 ⟨fun c hc=>?_,h⟩;rcases List.mem_cons.1 hc with rfl | hc
    ·exact hxy
    ·exact List.lt_trans hxy (h'.1 c hc)
theorem tn_:∀ {cs:List Cl} {x:Cl} {k:ByteArray},Up cs->getC k (setC x cs)=if x.k=k then some x else getC k cs
 | [],x,k,_=>by simp [setC,getC]
 | y :: ys,x,k,h=>by
  have h':=List.pairwise_cons.1 h;unfold setC;split
  ·rename_i hlt
   unfold getC;rw [tn_ h'.2];by_cases e:y.k=k
   ·rw [if_pos e,if_pos e,if_neg (fun e2=>by rw [e,e2] at hlt; exact List.lt_irrefl _ hlt)]
   ·rw [if_neg e,if_neg e]
  ·split
   ·rename_i he
    by_cases e:x.k=k
    ·simp [getC,e]
    ·simp [getC,e,he]
   ·by_cases e:x.k=k
    ·simp [getC,e]
    ·simp [getC,e]
theorem pW_ {cs:List Cl} {x:Cl} {k:ByteArray} (h:Up cs):atC k (setC x cs)=if x.k=k then x else atC k cs:=by
 unfold atC;rw [tn_ h];split <;> rfl
theorem wQ_:∀ (cs:List Cl) (x:Cl),(setC x cs).length<=cs.length+1
 | [],x=>by simp [setC]
 | y :: ys,x=>by
  unfold setC;split
  ·have:=wQ_ ys x
   simp only [List.length_cons]; omega
  ·split <;> simp only [List.length_cons] <;> omega
structure Nd where
 id:Int
 n:Int
 cut:Int
 cs:List Cl
 fd:List En
def newN (id:Int):Nd:=⟨id,0,0,[],[]⟩
def nxt (x:Nd) (r:Bool × Cl):Nd:=⟨x.id,if r.1 then x.n+1 else x.n,x.cut,setC r.2 x.cs,if r.1 then x.fd++[⟨x.id,x.n+1,r.2.k⟩] else x.fd⟩
def mkN (id:Int) (rs:List (Bool × Cl)):Nd:=rs.foldl nxt (newN id)
theorem xS_ (id:Int) (rs:List (Bool × Cl)) (r:Bool × Cl):mkN id (rs++[r])=nxt (mkN id rs) r:=by simp [mkN]
theorem wP_ (id:Int) (rs:List (Bool × Cl)) (i:Nat) (h:i < rs.length):mkN id (rs.take (i+1))=nxt (mkN id (rs.take i)) rs[i]:=by rw [List.take_succ_eq_append_getElem h,xS_]
theorem p4_ (x:Nd) (r:Bool × Cl):(nxt x r).id=x.id∧(nxt x r).cut=x.cut:=⟨rfl,rfl⟩
theorem sE_ (id:Int) (rs:List (Bool × Cl)):(mkN id rs).id=id∧(mkN id rs).cut=0:=by
 rcases List.eq_nil_or_concat rs with rfl | ⟨rs',r,rfl⟩
 ·exact ⟨rfl,rfl⟩
 ·rw [List.concat_eq_append,xS_]
  have:=sE_ id rs'
  exact ⟨(p4_ _ r).1.trans this.1,(p4_ _ r).2.trans this.2⟩
termination_by rs.length
structure Fol (x:Nd) (r:Bool × Cl):Prop where
 key:keyP r.2.k
 ok:OkP r.2.l r.2.a r.2.b r.2.c
 okh:OkP (atC r.2.k x.cs).l (atC r.2.k x.cs).a (atC r.2.k x.cs).b (atC r.2.k x.cs).c
 cov:sj r.2.a r.2.b r.2.c (atC r.2.k x.cs).a (atC r.2.k x.cs).b (atC r.2.k x.cs).c r.2.l (atC r.2.k x.cs).l=r.2.l
 cov':sj (atC r.2.k x.cs).a (atC r.2.k x.cs).b (atC r.2.k x.cs).c r.2.a r.2.b r.2.c (atC r.2.k x.cs).l r.2.l=r.2.l
 le:(atC r.2.k x.cs).a<=r.2.a∧(atC r.2.k x.cs).b<=r.2.b∧(atC r.2.k x.cs).c<=r.2.c
 ne:¬ ((atC r.2.k x.cs).l=r.2.l∧(atC r.2.k x.cs).a=r.2.a∧(atC r.2.k x.cs).b=r.2.b∧(atC r.2.k x.cs).c=r.2.c)
 room:x.cs.length<=99
 bnd:0<=x.n∧x.n < 9999
 put:r.1=true->(∃ s ∈ r.2.l,s.p=x.id∧s.n=x.n+1)∧comp r.2.a r.2.b r.2.c x.id=x.n+1
 join:r.1=false->comp r.2.a r.2.b r.2.c x.id<=x.n
def Gds (id:Int) (rs:List (Bool × Cl)):Prop:=∀ i (h:i < rs.length),Fol (mkN id (rs.take i)) rs[i]
theorem oS_ (id:Int):Gds id []:=fun i h=>by simp at h
theorem Gds.snoc {id:Int} {r:Bool × Cl} (h:Gds id rs) (hf:Fol (mkN id rs) r):Gds id (rs++[r]):=fun i hi=>by
 by_cases e:i < rs.length
 ·rw [List.take_append_of_le_length (by omega),List.getElem_append_left e];exact h i e
 ·have e2:i=rs.length:=by simp at hi; omega
  subst e2;rw [List.getElem_append_right (by omega)]
  simpa using hf
theorem Gds.up {id:Int} {rs:List (Bool × Cl)}:Up (mkN id rs).cs:=by
 rcases List.eq_nil_or_concat rs with rfl | ⟨rs',r,rfl⟩
 ·simp [mkN,newN,Up]
 ·rw [List.concat_eq_append,xS_];exact v1_ (Gds.up (id:=id) (rs:=rs'))
termination_by rs.length
end
end Go.Proofs.YtijcjhcgpmnchaaGreatDoor
