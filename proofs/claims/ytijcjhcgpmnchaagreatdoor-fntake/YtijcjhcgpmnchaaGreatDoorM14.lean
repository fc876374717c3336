/- Nodes, part 14 of the law FnTake. -/
import Derived.Test.YtijcjhcgpmnchaaGreatDoorM13
import Derived.Laws.RangeAny
namespace Go.Proofs.YtijcjhcgpmnchaaGreatDoor
open Go.RowKit
set_option maxRecDepth 100000
set_option maxHeartbeats 16000000
set_option linter.unusedSimpArgs false
set_option linter.unusedVariables false
section
variable {k:Nat} {most:Int}
theorem x0_ (W:World) (s:ByteArray) (p:Nat):Below W.heap.size W (W.iter s p):=zb_ W _
theorem uT_ {l:List UInt8} {n:Int} (h:(n,k)=ld most l):Ending.returned (.tuple #[.int .i64 n,.int .i64 (k:Int)])=.returned (.tuple #[.int .i64 (ld most l).1,.int .i64 (((ld most l).2:Nat):Int)]):=by rw [<- h]
theorem pE_ (s:ByteArray) (most:Int) (w:World) (h0:0<=most) (h1:most<=100000) (hs:s.size<=1048576) :
  Calls Tryz.prog 222 #[.string s,.int .i64 most] w fun e w'=>e=.returned (.tuple #[.int .i64 (ld most (bl s)).1,.int .i64 (ld most (bl s)).2])∧Below w.heap.size w w':=by
 go_enter Tryz.func222,Tryz.ntmps222;go_wp2;go_loopw [4] (fun s4 wr=>∃ (pos:Nat) (n:Int),pos<=s.size∧s4=.int .i64 n∧0<=n∧n<=most∧wr=w.iter s pos∧ldG most ((bl s).drop pos) pos n=ld most (bl s)) (fun _ wr=>s.size - wr.iterPos w.heap.size)
 case atStart=>exact ⟨0,0,by omega,rfl,by omega,h0,rfl,rfl⟩
 case round=>
  obtain ⟨pos,n,hp,rfl,hn0,hn1,rfl,hL0⟩:=hrel;have hL:=hm_ hL0;clear hL0;by_cases hlt:pos < s.size
  ·by_cases ha:(s[pos]'hlt).toNat < 128
   ·have hnx:∀ ty,(Instr.next (.pointer (some ⟨w.heap.size,0,none⟩)) true ty).run Tryz.prog (w.iter s pos)=_:=fun ty=>run_next_ascii w s pos ty hlt ha
    obtain ⟨c,hc⟩:∃ c:Nat,c=(s[pos]'hlt).toNat:=⟨_,rfl⟩;rw [<- hc] at hnx;have hc':Hid (c=(s[pos]'hlt).toNat):=hc;rw [<- hc] at ha;clear hc;by_cases hd:48<=c∧c<=57
    ·obtain ⟨d1,d2⟩:=hd;have d1':¬ (c:Int) < 48:=by omega
     have d2':¬ 57 < (c:Int):=by omega
     have hdg:Hid (dg (s[pos]'hlt)=true):=yp_.2 (by rw [<- hc'.out]; exact ⟨d1,d2⟩);by_cases hz:0 < pos∧n=0
     ·obtain ⟨z1,rfl⟩:=hz;have z1':(0:Int) < (pos:Int):=by omega
      have HR:Hid ((0,0)=ld most (bl s)):=by rw [<- hL.out]; exact (oG_ most s pos 0 hlt hdg.out ⟨z1,rfl⟩).symm
      go_wp2;go_ret2;exact ⟨uT_ HR.out,x0_ _ _ _⟩
     ·by_cases hb:most < 10 * n+((c:Int) - 48)
      ·have HR:Hid ((0,0)=ld most (bl s)):=by rw [<- hL.out]; exact (nz_ most s pos n hlt hdg.out hz (by rw [<- hc'.out]; exact hb)).symm
       have hzz:¬ (0:Int) < (pos:Int)∨¬ n=0:=by omega
       rcases hzz with hz1 | hz1;rotate_left
       focus
        have hz2:(n == 0)=false:=beq_eq_false_iff_ne.2 hz1
       rotate_left
       all_goals
        go_wp2
        all_goals go_ret2
        all_goals exact ⟨uT_ HR.out,x0_ _ _ _⟩
      ·have HR:Hid (ldG most ((bl s).drop (pos+1)) (pos+1) (10 * n+((c:Int) - 48))=ld most (bl s)):=by
        show _=_
        rw [<- hL.out,hc'.out];exact (oH_ most s pos n hlt hdg.out hz (by rw [<- hc'.out]; exact hb)).symm
       have hzz:¬ (0:Int) < (pos:Int)∨¬ n=0:=by omega
       rcases hzz with hz1 | hz1
       ·go_wp2
        go_roundw
        case rel=>exact ⟨pos+1,_,by omega,rfl,by omega,by omega,rfl,HR.out⟩
        case measure=>simp; omega
       ·have hz2:(n == 0)=false:=beq_eq_false_iff_ne.2 hz1;go_wp2
        all_goals
         go_roundw
         case rel=>exact ⟨pos+1,_,by omega,rfl,by omega,by omega,rfl,HR.out⟩
         case measure=>simp; omega
    ·have hdg:Hid (dg (s[pos]'hlt)=false):=by
      rw [<- Bool.not_eq_true];exact fun h=>hd (by rw [hc'.out]; exact yp_.1 h)
     have HR:Hid ((n,pos)=ld most (bl s)):=by rw [<- hL.out]; exact (nx_ most s pos n hlt hdg.out).symm
     have hdd:(c:Int) < 48∨(¬ (c:Int) < 48∧57 < (c:Int)):=by omega
     rcases hdd with e1 | ⟨e1,e2⟩
     all_goals
      go_wp2;go_ret2;exact ⟨uT_ HR.out,x0_ _ _ _⟩
   ·have hnx:∀ ty,(Instr.next (.pointer (some ⟨w.heap.size,0,none⟩)) true ty).run Tryz.prog (w.iter s pos)=_:=fun ty=>run_next_any w s pos ty hlt
    have hh:=decode_high s pos hlt (by omega);have hle:=decode_le s pos
    have hdg:Hid (dg (s[pos]'hlt)=false):=by
     rw [<- Bool.not_eq_true];exact fun h=>by have:=yp_.1 h; omega
    have HR:Hid ((n,pos)=ld most (bl s)):=by rw [<- hL.out]; exact (nx_ most s pos n hlt hdg.out).symm
    obtain ⟨c,hc⟩:∃ c:Nat,c=(Utf8.decode s pos).1:=⟨_,rfl⟩;rw [<- hc] at hnx hh hle;clear hc;have e1:¬ (c:Int) < 48:=by omega
    have e2:57 < (c:Int):=by omega
    go_wp2;go_ret2;exact ⟨uT_ HR.out,x0_ _ _ _⟩
  ·have hnx:∀ ty,(Instr.next (.pointer (some ⟨w.heap.size,0,none⟩)) true ty).run Tryz.prog (w.iter s pos)=_:=fun ty=>run_next_end w s pos ty hlt
   have e:pos=s.size:=by omega
   have HR:Hid ((n,s.size)=ld most (bl s)):=by
    show (n,s.size)=ld most (bl s)
    rw [<- hL.out,ny_ most s pos n hlt,e]
   clear hL e;go_wp2;go_ret2;exact ⟨uT_ HR.out,x0_ _ _ _⟩
end
section
variable {g:Nat} {s s':ByteArray} {w w':World}
theorem ws_ (s:ByteArray) (h:s.size=0):s.toList.isEmpty=true:=by
 rw [ByteArray.toList_eq,List.isEmpty_iff];exact List.length_eq_zero_iff.1 ((zF_ s).trans h)
theorem xx_ (s:ByteArray) (h:0 < s.size):s.toList.isEmpty=false:=by
 rw [ByteArray.toList_eq];cases h':s.data.toList with
 | nil=>
  have e:([]:List UInt8).length=s.size:=by rw [<- h']; exact zF_ s
  simp only [List.length_nil] at e;omega
 | cons c l=>rfl
def Left (w:World) (g:Nat) (s:ByteArray):Prop:=w.cell? ⟨g,0,none⟩=some (.string s)∧w.frozen? ⟨g,0,none⟩=false
theorem xm_ (s:ByteArray) (k:Nat) (h:k<=s.size):bl (s.extract k s.size)=(bl s).drop k:=by
 unfold bl;rw [ByteArray.data_extract];simp;rw [List.take_of_length_le];simp
theorem yz_ (s:ByteArray) (k:Nat) (h:k<=s.size):(s.extract k s.size).size=s.size - k:=by
 rw [ByteArray.size_extract]; omega
theorem to_ (g:Nat) (s:ByteArray) (w:World) (h:w.cell? ⟨g,0,none⟩=some (.string s)) (hs:s.size=0) :
  Calls Tryz.prog 223 #[.pointer (some ⟨g,0,none⟩)] w fun e w'=>e=.returned (.bool true)∧w'=w:=by
 have hE:=ws_ s hs;clear hs;go_enter Tryz.func223,Tryz.ntmps223;go_wp2;go_ret;exact ⟨rfl,rfl⟩
theorem pL_ (g:Nat) (s:ByteArray) (w:World) (h:w.cell? ⟨g,0,none⟩=some (.string s)) (hs:0 < s.size) :
  Calls Tryz.prog 223 #[.pointer (some ⟨g,0,none⟩)] w fun e w'=>e=.returned (.bool false)∧w'=w:=by
 have hE:=xx_ s hs;go_enter Tryz.func223,Tryz.ntmps223;go_wp2;go_ret;exact ⟨rfl,rfl⟩
theorem yy_ (g:Nat) (s:ByteArray) (c:Nat) (w:World) (h:w.cell? ⟨g,0,none⟩=some (.string s)) (hs:s.size=0) :
  Calls Tryz.prog 220 #[.int .u8 c,.pointer (some ⟨g,0,none⟩)] w fun e w'=>e=.returned (.bool false)∧w'=w:=by
 have hE:=ws_ s hs;clear hs;go_enter Tryz.func220,Tryz.ntmps220;go_wp2;go_ret;exact ⟨rfl,rfl⟩
theorem yc_ (g:Nat) (s:ByteArray) (c:Nat) (w:World) (h:w.cell? ⟨g,0,none⟩=some (.string s)) (hs:0 < s.size) (hc:¬ (s[0]'hs).toNat=c) :
  Calls Tryz.prog 220 #[.int .u8 c,.pointer (some ⟨g,0,none⟩)] w fun e w'=>e=.returned (.bool false)∧w'=w:=by
 have hE:=xx_ s hs;have hc':(((s[0]'hs).toNat:Int) != (c:Int))=true:=by rw [bne_iff_ne]; omega
 go_enter Tryz.func220,Tryz.ntmps220;go_wp2;go_ret;exact ⟨rfl,rfl⟩
theorem yY_ (g:Nat) (s:ByteArray) (c:Nat) (w:World) (h:w.cell? ⟨g,0,none⟩=some (.string s)) (hf:w.frozen? ⟨g,0,none⟩=false) (hs:0 < s.size) (hc:(s[0]'hs).toNat=c) :
  Calls Tryz.prog 220 #[.int .u8 c,.pointer (some ⟨g,0,none⟩)] w fun e w'=>e=.returned (.bool true)∧w'=w.setCell ⟨g,0,none⟩ (.string (s.extract 1 s.size)):=by
 have hE:=xx_ s hs;subst hc;have hs1:(1:Int)<=(s.size:Int):=by omega
 go_enter Tryz.func220,Tryz.ntmps220;go_wp2;go_ret;exact ⟨rfl,rfl⟩
theorem xV_ (h:Left w g s):Left (w.setCell ⟨g,0,none⟩ (.string s')) g s':=⟨zI_ h.1,by rw [World.frozen?_setCell]; exact h.2⟩
theorem zu_ (h:Left w g s) (hb:Below w.heap.size w w') (hg:g < w.heap.size):Left w' g s:=⟨za_ hb h.1 hg,zf_ hb h.2 hg⟩
theorem yv_ (g:Nat) (s:ByteArray) (most:Int) (n:Int) (k:Nat) (hnk:Hid (ld most (bl s)=(n,k))) (w:World) (h:Left w g s) (hg:g < w.heap.size) (h0:0<=most) (h1:most<=100000) (hs:s.size<=1048576) :
  Calls Tryz.prog 221 #[.int .i64 most,.pointer (some ⟨g,0,none⟩)] w fun e w'=>e=.returned (.tuple #[.int .i64 n,.bool (decide (0 < k))])∧Left w' g (s.extract k s.size)∧w.grownBy w' (some g):=by
 obtain ⟨hc,hf⟩:=h;go_enter Tryz.func221,Tryz.ntmps221;go_wp2_with fail;refine (pE_ s most _ h0 h1 hs).mono ?_;rintro e w1 ⟨rfl,hb⟩;have hB:=hm_ hb;have L1:Hid (Left w1 g s):=zu_ ⟨hc,hf⟩ hb hg;have hc1:=L1.out.1;have hf1:=L1.out.2;have HK:Hid (k<=s.size):=by have:=(sL_ h0 (bl s)).2.2; rw [hnk.out,zF_] at this; exact this
 rw [hnk.out];have k0:(0:Int)<=(k:Int):=by omega
 have k1:(k:Int)<=(s.size:Int):=by have:=HK.out; omega
 clear hb hc hf;dsimp only;go_wp2
 all_goals go_ret2
 all_goals exact ⟨rfl,xV_ L1.out,zX_ (z4_ hB.out) (wp_ _ _ _ _)⟩
end
end Go.Proofs.YtijcjhcgpmnchaaGreatDoor
