/- Nodes, part 24 of the law FnTake. -/
import Derived.Test.YtijcjhcgpmnchaaGreatDoorM11
import Derived.Test.YtijcjhcgpmnchaaGreatDoorM21
namespace Go.Proofs.YtijcjhcgpmnchaaGreatDoor
open Go.RowKit
set_option maxRecDepth 100000
set_option maxHeartbeats 16000000
set_option linter.unusedSimpArgs false
set_option linter.unusedVariables false
theorem elS:sf_ Tryz.prog 33 89 4 32:=by
 refine ⟨Tryz.underlying33,?_,by decide,by decide⟩;obtain ⟨i0,hi,hz0,hz1,hz2⟩:=info_parts yG_;exact ⟨i0,_,hi,hz0,hz1,hz2,rfl⟩
theorem vk_ (lo vc:Nat) (vo:Option Addr) (l:List Sib) (a b c:Int) (w:World) (hl:l.length<=100000) (hr:GRow lo w vo (flat l)) :
  Calls Tryz.prog 91 #[.agg #[.slice vo l.length vc,.int .i64 a,.int .i64 b,.int .i64 c]] w fun e w'=>∃ po co,e=.returned (.agg #[.slice po l.length co,.int .i64 a,.int .i64 b,.int .i64 c])∧GRow w.heap.size w' po (flat l)∧l.length<=co∧Below w.heap.size w w':=by
 have X:Hid (Box ((w.alloc (.cells #[.slice vo l.length vc,.int .i64 a,.int .i64 b,.int .i64 c] 37)).alloc (.cells #[.slice none 0 0,.int .i64 0,.int .i64 0,.int .i64 0] 37)) w.heap.size [.slice vo l.length vc,.int .i64 a,.int .i64 b,.int .i64 c]∧Box ((w.alloc (.cells #[.slice vo l.length vc,.int .i64 a,.int .i64 b,.int .i64 c] 37)).alloc (.cells #[.slice none 0 0,.int .i64 0,.int .i64 0,.int .i64 0] 37)) (w.heap.size+1) [.slice none 0 0,.int .i64 0,.int .i64 0,.int .i64 0]∧Below w.heap.size w ((w.alloc (.cells #[.slice vo l.length vc,.int .i64 a,.int .i64 b,.int .i64 c] 37)).alloc (.cells #[.slice none 0 0,.int .i64 0,.int .i64 0,.int .i64 0] 37))):=⟨zn_.alloc,by have:=zn_ (W:=w.alloc (.cells #[.slice vo l.length vc,.int .i64 a,.int .i64 b,.int .i64 c] 37)) (t:=37) (vs:=[.slice none 0 0,.int .i64 0,.int .i64 0,.int .i64 0]); simpa using this,(zb_ _ _).trans ((zb_ _ _).mono (by simp))⟩;have HR:=hm_ hr;clear hr;go_enter Tryz.func91,Tryz.ntmps91;go_upto_region 1 with fail;generalize ((w.alloc (.cells #[.slice vo l.length vc,.int .i64 a,.int .i64 b,.int .i64 c] 37)).alloc (.cells #[.slice none 0 0,.int .i64 0,.int .i64 0,.int .i64 0] 37))=W1 at *;refine wp_region_held_drew (S:=(fun w'=>w'.cell? ⟨w.heap.size,0,none⟩=some (.slice vo l.length vc)∧w'.cell? ⟨w.heap.size,1,none⟩=some (.int .i64 a)∧w'.cell? ⟨w.heap.size,2,none⟩=some (.int .i64 b)∧w'.cell? ⟨w.heap.size,3,none⟩=some (.int .i64 c))) (by kernel_rfl) ?_ (fun hH=>?_)
 ·(try dsimp only);exact (X.out.1.next (zd_ _)).c4
 replace X:Hid (Box W1.drew w.heap.size [.slice vo l.length vc,.int .i64 a,.int .i64 b,.int .i64 c]∧Box W1.drew (w.heap.size+1) [.slice none 0 0,.int .i64 0,.int .i64 0,.int .i64 0]∧Below w.heap.size w W1.drew):=⟨X.out.1.next (zd_ _),X.out.2.1.next (zd_ _),X.out.2.2.trans ((zd_ _).mono X.out.2.2.size)⟩;generalize W1.drew=W2 at *;refine wTk 0 ?_;refine wTk 1 ?_;refine wTk 3 ?_;refine wTk 4 ?_;refine wRd 2 (fun K hK=>?_);rw [if_pos (by rfl)];refine zx_ elS (.const (.slice none 0 0)) (.tmp 4) rfl (.slice none 0 0) 0 [] W2.heap.size l.length rfl (OwnG.nil _ _ _ _) (Nat.le_refl _) vo l.length vc (flat l) rfl (x7_ l) (wq_ l) lo (HR.out.next X.out.2.2) (by omega) (by omega) ?_;intro po co W3 hO hG _;obtain ⟨_,_,e1,hc,hg⟩:=hO.grow;cases e1;have hb:=xb_ hG;have R3:Hid (GRow W2.heap.size W3 po (flat l)∧l.length<=co):=⟨by simpa using hg,hc⟩;have X3:Hid (Box W3 w.heap.size [.slice vo l.length vc,.int .i64 a,.int .i64 b,.int .i64 c]∧Box W3 (w.heap.size+1) [.slice none 0 0,.int .i64 0,.int .i64 0,.int .i64 0]∧Below w.heap.size w W3∧w.heap.size+1 < W2.heap.size):=⟨X.out.1.next hb,X.out.2.1.next hb,X.out.2.2.trans (hb.mono X.out.2.2.size),X.out.2.1.lt⟩;(try simp only []);refine wHk hK (X3.out.1.c4) ?_;clear hK K hH hO hG hg hc hb X HR;intro hH;refine wTk 5 ?_;obtain ⟨a0,a1,a2,a3⟩:=X3.out.2.1.c4;obtain ⟨g0,g1,g2,g3⟩:=X3.out.2.1.f4;refine wRd 6 (fun K hK=>?_);go_simp;(try simp only []);refine hK.out _ _ ?_ (fun hH'=>?_)
 ·(try dsimp only);exact ((((X3.out.1.oth (by omega)).oth (by omega)).oth (by omega)).oth (by omega)).c4
 clear hK K hH hH';refine wLy ?_;refine wDn ?_;have Y:=X3.out.2.1.s4 (u0:=.slice po l.length co) (u1:=.int .i64 a) (u2:=.int .i64 b) (u3:=.int .i64 c);obtain ⟨y0,y1,y2,y3⟩:=Y.c4;clear Y a0 a1 a2 a3 g0 g1 g2 g3
 have Z:Hid (GRow w.heap.size ((((W3.setCell ⟨w.heap.size+1,0,none⟩ (.slice po l.length co)).setCell ⟨w.heap.size+1,1,none⟩ (.int .i64 a)).setCell ⟨w.heap.size+1,2,none⟩ (.int .i64 b)).setCell ⟨w.heap.size+1,3,none⟩ (.int .i64 c)) po (flat l)∧Below w.heap.size w ((((W3.setCell ⟨w.heap.size+1,0,none⟩ (.slice po l.length co)).setCell ⟨w.heap.size+1,1,none⟩ (.int .i64 a)).setCell ⟨w.heap.size+1,2,none⟩ (.int .i64 b)).setCell ⟨w.heap.size+1,3,none⟩ (.int .i64 c))):=by
  have hlt:=X3.out.2.2.2;refine ⟨?_,zt_ (zt_ (zt_ (zt_ X3.out.2.2.1 (by omega)) (by omega)) (by omega)) (by omega)⟩;exact ((((R3.out.1.keep (zc_ (by omega))).keep (zc_ (by omega))).keep (zc_ (by omega))).keep (zc_ (by omega))).weak (by omega)
 generalize ((((W3.setCell ⟨w.heap.size+1,0,none⟩ (.slice po l.length co)).setCell ⟨w.heap.size+1,1,none⟩ (.int .i64 a)).setCell ⟨w.heap.size+1,2,none⟩ (.int .i64 b)).setCell ⟨w.heap.size+1,3,none⟩ (.int .i64 c))=W4 at *;go_wp2;refine bodyPost_ret (v:=.agg #[.slice po l.length co,.int .i64 a,.int .i64 b,.int .i64 c]) (by simp [results,Tryz.results91,go_sem, *]) rfl ?_;exact ⟨po,co,rfl,Z.out.1,R3.out.2,Z.out.2⟩
theorem uB_ (p:Option Addr) (n c:Nat) (w:World):Sem.run Tryz.prog (binOp BinOp.eql 23 (Value.slice p n c) (Value.slice none 0 0)) w=.ok (.bool p.isNone) w:=by
 cases p <;> kernel_rfl
theorem rw_ (lo c:Nat) (p:Option Addr) (l:List Cm) (w:World) (hl:l.length<=100000) (hr:GRow lo w p (zp_ l)) :
  Calls Tryz.prog 90 #[.slice p l.length c] w fun e w'=>∃ po co,e=.returned (.slice po l.length co)∧OwnG w' 91 5 (.slice po l.length co) l.length (zp_ l) w.heap.size∧Below w.heap.size w w':=by
 have E:=uB_ p l.length c;by_cases hp:p.isNone=true
 ·have hn:zp_ l=[]:=by
   rcases hr with h | ⟨b,off,h1,_⟩
   ·exact h
   ·rw [h1] at hp; simp at hp
  have hz:l=[]:=by cases l with
   | nil=>rfl
   | cons x l=>simp [zp_] at hn
  subst hz;rw [hp] at E;clear hr hn hp;simp only [List.length_nil] at *;go_enter Tryz.func90,Tryz.ntmps90;go_wp2;go_ret;exact ⟨none,0,rfl,OwnG.nil _ _ _ _,Below.refl _ _⟩
 ·rw [show p.isNone=false from eq_false_of_ne_true hp] at E
  have HR:Hid (GRow lo (w.alloc (.cells #[] 91)) p (zp_ l)):=hr.next (zb_ _ _);have OL:Hid (OwnG (w.alloc (.cells #[] 91)) 91 5 (.slice (some ⟨w.heap.size,0,none⟩) 0 0) 0 [] w.heap.size):=OwnG.lit (Nat.le_refl _);clear hr hp;go_enter Tryz.func90,Tryz.ntmps90;go_wp2_with (first | (at_builtin; refine yt_ elC rfl _ _ rfl (.slice (some ⟨w.heap.size,0,none⟩) 0 0) 0 [] w.heap.size l.length rfl OL.out (by simp) p l.length c (zp_ l) rfl (yP_ l) (ya_ l) lo HR.out (by omega) (by omega) ?_) | go_in);intro po co W3 hO hG _;have R:Hid (OwnG W3 91 5 (.slice po l.length co) l.length (zp_ l) w.heap.size∧Below w.heap.size w W3):=⟨by simpa using hO,(zb_ _ _).trans (hG.below (by simp) (fun k hk=>by simp [Value.ownBlock] at hk; omega))⟩;clear hO hG;go_wp2;go_ret;exact ⟨po,co,rfl,R.out.1,R.out.2⟩
theorem uA_ (p:Option Addr) (n c:Nat) (w:World):Sem.run Tryz.prog (binOp BinOp.eql 24 (Value.slice p n c) (Value.slice none 0 0)) w=.ok (.bool p.isNone) w:=by
 cases p <;> kernel_rfl
theorem ru_ (lo c:Nat) (p:Option Addr) (l:List En) (w:World) (hl:l.length<=100000) (hr:GRow lo w p (zl_ l)) :
  Calls Tryz.prog 92 #[.slice p l.length c] w fun e w'=>∃ po co,e=.returned (.slice po l.length co)∧OwnG w' 52 3 (.slice po l.length co) l.length (zl_ l) w.heap.size∧Below w.heap.size w w':=by
 have E:=uA_ p l.length c;by_cases hp:p.isNone=true
 ·have hn:zl_ l=[]:=by
   rcases hr with h | ⟨b,off,h1,_⟩
   ·exact h
   ·rw [h1] at hp; simp at hp
  have hz:l=[]:=by cases l with
   | nil=>rfl
   | cons x l=>simp [zl_] at hn
  subst hz;rw [hp] at E;clear hr hn hp;simp only [List.length_nil] at *;go_enter Tryz.func92,Tryz.ntmps92;go_wp2;go_ret;exact ⟨none,0,rfl,OwnG.nil _ _ _ _,Below.refl _ _⟩
 ·rw [show p.isNone=false from eq_false_of_ne_true hp] at E
  have HR:Hid (GRow lo (w.alloc (.cells #[] 52)) p (zl_ l)):=hr.next (zb_ _ _);have OL:Hid (OwnG (w.alloc (.cells #[] 52)) 52 3 (.slice (some ⟨w.heap.size,0,none⟩) 0 0) 0 [] w.heap.size):=OwnG.lit (Nat.le_refl _);clear hr hp;go_enter Tryz.func92,Tryz.ntmps92;go_wp2_with (first | (at_builtin; refine yt_ elE rfl _ _ rfl (.slice (some ⟨w.heap.size,0,none⟩) 0 0) 0 [] w.heap.size l.length rfl OL.out (by simp) p l.length c (zl_ l) rfl (zO_ l) (zv_ l) lo HR.out (by omega) (by omega) ?_) | go_in);intro po co W3 hO hG _;have R:Hid (OwnG W3 52 3 (.slice po l.length co) l.length (zl_ l) w.heap.size∧Below w.heap.size w W3):=⟨by simpa using hO,(zb_ _ _).trans (hG.below (by simp) (fun k hk=>by simp [Value.ownBlock] at hk; omega))⟩;clear hO hG;go_wp2;go_ret;exact ⟨po,co,rfl,R.out.1,R.out.2⟩
end Go.Proofs.YtijcjhcgpmnchaaGreatDoor
