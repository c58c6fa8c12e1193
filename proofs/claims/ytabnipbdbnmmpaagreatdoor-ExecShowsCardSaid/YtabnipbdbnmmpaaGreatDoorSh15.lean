import Derived.Test.YtabnipbdbnmmpaaGreatDoorSh01
import Derived.Test.YtabnipbdbnmmpaaGreatDoorSh14
import Derived.Test.YtabnipbdbnmmpaaGreatDoorSh13
import Derived.LoopN
set_option linter.unusedVariables false
set_option linter.unusedSimpArgs false
namespace Go.Proofs.YtabnipbdbnmmpaaGreatDoor
namespace Rm
open Go.RowKit
def ReadP (w:World) (n:Nat) (R:Nat→Int) (e:Ending) (w':World) : Prop := ∃ g,w.heap.size≤g∧g<w'.heap.size∧e = .returned (.tuple #[.slice (some ⟨g,0,.none⟩) n n,.bool true])∧RowB w' g n R∧(∀ i,i<n→w'.frozen? ⟨g,i,.none⟩=false)∧Below w.heap.size w w'
section
variable {w:World} {p b m N cnt:Nat} {B:Nat→Int} {nx:Int} {hd:Int→Bool}
set_option maxHeartbeats 1000000 in
theorem read_ok (h:Mem w p b m N B nx hd cnt) (o n:Nat) (hn:1≤n) (ho:o+n≤4096*N) (hh:∀ f : Nat,o / 4096≤f→f*4096<o+n→hd (2147483648+f*4096)=true) :
  Calls Tryz.prog 20 #[.pointer (some ⟨p,0,.none⟩),.int .u64 (2147483648+o),.int .i64 n] w fun e w' => ReadP w n (fun i => B (o+i)) e w' := by
 have c := reach_ok h o n hn ho hh
 have HM : Hid (Mem w p b m N B nx hd cnt) := h
 have n2 := h.n2
 clear h hh
 have i1 : ((n:Int) == 0)=false := by simp; omega
 go_enter Tryz.func20,Tryz.ntmps20
 go_wp2_with fail
 refine c.mono ?_
 rintro e w1 ⟨rfl,hb⟩
 have M1 := HM.out.below hb
 have c2 := copied_any b o n (4096*N - o) (fun i => B (o+i)) w1 hn (by omega) (fun i hi => M1.cb _ (by omega))
 clear M1 c
 have HB : Hid (Below w.heap.size w w1) := hb
 clear hb
 go_wp2_with fail
 refine c2.mono ?_
 rintro e w2 ⟨g,hg1,hg2,rfl,hr,hf,hb2⟩
 have HP : Hid (ReadP w n (fun i => B (o+i)) (.returned (.tuple #[.slice (some ⟨g,0,.none⟩) n n,.bool true])) w2) := ⟨g,Nat.le_trans HB.out.size hg1,hg2,rfl,hr,hf,HB.out.trans (hb2.mono HB.out.size)⟩
 clear c2 hg1 hg2 hr hf hb2
 go_wp2
 go_ret2
 exact HP.out
set_option maxHeartbeats 1000000 in
theorem write_ok (h:Mem w p b m N B nx hd cnt) (o n:Nat) (hn:1≤n) (ho:o+n≤4096*N) (hh:∀ f : Nat,o / 4096≤f→f*4096<o+n→hd (2147483648+f*4096)=true) (g k c:Nat) (R:Nat→Int) (hR:∀ i,0≤R i∧R i<256) (hg:∀ i,i<n→w.cell? ⟨g,k+i,.none⟩=some (.int .u8 (R i))) :
  Calls Tryz.prog 103 #[.pointer (some ⟨p,0,.none⟩),.int .u64 (2147483648+o),.slice (some ⟨g,k,.none⟩) n c] w fun e w' => e = .returned (.bool true)∧Mem w' p b m N (over B o ((List.range n).map R)) nx hd cnt∧Fra p b m w w' := by
 have c1 := reach_ok h o n hn ho hh
 have HM : Hid (Mem w p b m N B nx hd cnt) := h
 have hgw : g<w.heap.size := lt_of_cell (hg 0 hn)
 have n2 := h.n2
 have key : Hid (∀ w1,Below w.heap.size w w1 → ∃ w2,(∀ ty,(Builtin.copy_ #[24,24] ty #[.slice (some ⟨b,o,.none⟩) n (4096*N - o),.slice (some ⟨g,k,.none⟩) n c]).run Tryz.prog w1 = .ok (.int .i64 n) w2)∧Mem w2 p b m N (over B o ((List.range n).map R)) nx hd cnt∧Fra p b m w w2) := fun w1 hb => by
  have M1 := HM.out.below hb
  refine ⟨w1.setCells b o (((List.range n).map R).map (.int .u8)),fun ty => ?_,M1.setCells o _ (by simpa using ho) (fun v hv => by simp only [List.mem_map] at hv; obtain ⟨i,_,rfl⟩ := hv; exact hR i),(Fra.below hb).setCells o _⟩
  have := run_copy_cells (P:=Tryz.prog) w1 24 24 ty 5 b o n (4096*N - o) ⟨g,k,.none⟩ n c (((List.range n).map R).map (.int .u8)) Tryz.underlying24 info5 (by simp)
   (fun j v hj => by
    rw [addr_add]
    rw [List.getElem?_map,List.getElem?_map] at hj
    by_cases hjn : j<n
    ·rw [List.getElem?_range hjn] at hj
     simp only [Option.map_some,Option.some.injEq] at hj
     subst hj
     exact (hb.cell (p:=⟨g,k+j,.none⟩) hgw).trans (hg j hjn)
    ·rw [List.getElem?_eq_none (by simp; omega)] at hj
     cases hj)
   (fun j hj => by rw [M1.cb _ (by simp at hj; omega)]; rfl) (fun j hj => M1.fb _ (by simp at hj; omega)) (fun v hv => by simp only [List.mem_map] at hv; obtain ⟨i,_,rfl⟩ := hv; rfl)
  rw [this]
  simp [goInt]
 clear h hh hg hR
 go_enter Tryz.func103,Tryz.ntmps103
 go_wp2_with fail
 refine c1.mono ?_
 rintro e w1 ⟨rfl,hb⟩
 obtain ⟨w2,hcp,hM,hF⟩ := key.out w1 hb
 clear c1 hb
 go_wp2
 go_ret
 exact ⟨rfl,hM,hF⟩
end
end Rm
namespace Rm
open Go.RowKit
section
variable {w:World} {p b m N cnt:Nat} {B:Nat→Int} {nx:Int} {hd:Int→Bool}
theorem reach_zero (h:Mem w p b m N B nx hd cnt) (pa:Int) : Calls Tryz.prog 58 #[.pointer (some ⟨p,0,.none⟩),.int .u64 pa,.int .i64 0] w fun e w' => e = .returned (.tuple #[.slice .none 0 0,.bool true])∧w'=w := by
 have c := made_some p b _ _ w h.c0
 clear h
 go_enter Tryz.func58,Tryz.ntmps58
 go_wp2_with (go_at_call 33; refine c.mono ?_; rintro e w0 ⟨rfl,rfl⟩)
 go_ret2
 exact ⟨rfl,rfl⟩
set_option maxHeartbeats 2000000 in
theorem reach_hole (h:Mem w p b m N B nx hd cnt) (o n:Nat) (hn:1≤n) (ho:o+n≤4096*N) (f0:Nat) (hf1:o / 4096≤f0) (hf2:f0*4096<o+n) (hh:hd (2147483648+f0*4096)=false) :
  Calls Tryz.prog 58 #[.pointer (some ⟨p,0,.none⟩),.int .u64 (2147483648+o),.int .i64 n] w fun e w' => e = .returned (.tuple #[.slice .none 0 0,.bool false])∧Below w.heap.size w w' := by
 have c := made_some p b _ _ w h.c0
 have k0 := h.c0
 have n2 := h.n2
 have i1 : ¬ ((n:Int)<0) := by omega
 have i2 : ((n:Int) == 0)=false := by simp; omega
 have i3 : (n:Int)≤4096*N - o := by omega
 have i4 : (o:Int)<4096*N := by omega
 have HM : Hid (Mem w p b m N B nx hd cnt) := h
 clear h
 go_enter Tryz.func58,Tryz.ntmps58
 go_wp2_with (first | (go_at_call 33; refine c.mono ?_; rintro e w0 ⟨rfl,rfl⟩) | fail)
 go_quiet (fail)
 go_wp2
 simp only [show (2147483648+(o:Int) - 2147483648)=o by omega]
 go_loopw [11] (fun k wr => ∃ f : Nat,f≤f0∧k = .int .u64 (2147483648+f*4096)∧Below w0.heap.size w0 wr) (fun k _ => (2147483648+o+n+4096 - intOf k).toNat)
 case atStart => exact ⟨o / 4096,by omega,congrArg _ (by omega),below_drewN (Below.refl _ _) _⟩
 case round =>
  obtain ⟨f,hff,rfl,hB⟩ := hrel
  have M := HM.out.below hB
  have HB : Hid (Below w0.heap.size w0 wr) := hB
  have hfn : f*4096<o+n := Nat.lt_of_le_of_lt (Nat.mul_le_mul_right _ hff) hf2
  have j1 : (2147483648+(f:Int)*4096)<2147483648+(o+n) := by omega
  have c1 := isHeld_any M (2147483648+f*4096) (by omega)
  clear M hB
  cases hq : hd (2147483648+f*4096) with
  | true =>
   rw [hq] at c1
   have hne : f≠f0 := fun e => by rw [e,hh] at hq; cases hq
   have q : Hid (f+1≤f0∧Value.int .u64 (2147483648+(f:Int)*4096+4096) = .int .u64 (2147483648+((f+1 : Nat) : Int)*4096)∧(2147483648+(o:Int)+n+4096 - intOf (.int .u64 (2147483648+(f:Int)*4096+4096))).toNat<(2147483648+(o:Int)+n+4096 - intOf (.int .u64 (2147483648+(f:Int)*4096))).toNat) := by
    refine ⟨by omega,?_,?_⟩
    ·rw [show ((f+1 : Nat) : Int)=(f:Int)+1 by omega,show 2147483648+((f:Int)+1)*4096=2147483648+(f:Int)*4096+4096 by omega]
    ·simp only [intOf]
     omega
   go_wp2_with (first | (go_at_call 111; refine c1.mono ?_; rintro e w1 ⟨rfl,hb1⟩) | fail)
   exact ⟨⟨f+1,q.out.1,q.out.2.1,HB.out.trans (hb1.mono HB.out.size)⟩,q.out.2.2⟩
  | false =>
   rw [hq] at c1
   go_wp2_with (first | (go_at_call 111; refine c1.mono ?_; rintro e w1 ⟨rfl,hb1⟩) | fail)
   go_ret2
   exact ⟨rfl,HB.out.trans (hb1.mono HB.out.size)⟩
set_option maxHeartbeats 2000000 in
theorem reach_out (h:Mem w p b m N B nx hd cnt) (pa n:Int) (hp:0≤pa∧pa<18446744073709551616) (hn:1≤n) (hn2:n≤9223372036854775807) (ho:¬ (2147483648≤pa∧pa - 2147483648+n≤4096*N)) :
  Calls Tryz.prog 58 #[.pointer (some ⟨p,0,.none⟩),.int .u64 pa,.int .i64 n] w fun e w' => e = .returned (.tuple #[.slice .none 0 0,.bool false])∧Below w.heap.size w w' := by
 have c := made_some p b _ _ w h.c0
 have k0 := h.c0
 have n2 := h.n2
 have i1 : ¬ (n<0) := by omega
 have i2 : (n == 0)=false := by simp; omega
 clear h
 by_cases h1 : 2147483648≤pa
 ·by_cases h2 : 4096*(N:Int)≤pa - 2147483648
  ·go_enter Tryz.func58,Tryz.ntmps58
   go_wp2_with (first | (go_at_call 33; refine c.mono ?_; rintro e w0 ⟨rfl,rfl⟩) | fail)
   go_quiet (fail)
   go_wp2
   go_ret2
   exact ⟨rfl,below_drewN (Below.refl _ _) _⟩
  ·have h3 : 4096*(N:Int) - (pa - 2147483648)<n := by omega
   go_enter Tryz.func58,Tryz.ntmps58
   go_wp2_with (first | (go_at_call 33; refine c.mono ?_; rintro e w0 ⟨rfl,rfl⟩) | fail)
   go_quiet (fail)
   go_wp2
   go_ret2
   exact ⟨rfl,below_drewN (Below.refl _ _) _⟩
 ·have hw : IntKind.u64.wrap (pa - 2147483648)=pa - 2147483648+18446744073709551616 := by rw [IntKind.wrap_u64]; omega
  have h2 : 4096*(N:Int)≤pa - 2147483648+18446744073709551616 := by omega
  generalize pa - 2147483648+18446744073709551616=Z at *
  go_enter Tryz.func58,Tryz.ntmps58
  go_wp2_with (first | (go_at_call 33; refine c.mono ?_; rintro e w0 ⟨rfl,rfl⟩) | fail)
  go_quiet (fail)
  go_wp2
  go_ret2
  exact ⟨rfl,below_drewN (Below.refl _ _) _⟩
theorem access_no (pa n v:Int) (wr:Bool) (c:Calls Tryz.prog 58 #[.pointer (some ⟨p,0,.none⟩),.int .u64 pa,.int .i64 n] w fun e w' => e = .returned (.tuple #[.slice .none 0 0,.bool false])∧Below w.heap.size w w') :
  Calls Tryz.prog 186 #[.pointer (some ⟨p,0,.none⟩),.int .u64 pa,.int .i64 n,.bool wr,.int .u64 v] w fun e w' => e = .returned (.tuple #[.int .u64 0,.bool false])∧Below w.heap.size w w' := by
 go_enter Tryz.func186,Tryz.ntmps186
 go_wp2_with (go_at_call 58; refine c.mono ?_; rintro e w1 ⟨rfl,hb⟩)
 go_ret2
 exact ⟨rfl,hb⟩
theorem load_no (pa n:Int) (c:Calls Tryz.prog 186 #[.pointer (some ⟨p,0,.none⟩),.int .u64 pa,.int .i64 n,.bool false,.int .u64 0] w fun e w' => e = .returned (.tuple #[.int .u64 0,.bool false])∧Below w.heap.size w w') :
  Calls Tryz.prog 152 #[.pointer (some ⟨p,0,.none⟩),.int .u64 pa,.int .i64 n] w fun e w' => e = .returned (.tuple #[.int .u64 0,.bool false])∧Below w.heap.size w w' := by
 go_enter Tryz.func152,Tryz.ntmps152
 go_wp2_with (go_at_call 186; refine c.mono ?_; rintro e w1 ⟨rfl,hb⟩)
 go_ret2
 exact ⟨rfl,hb⟩
theorem read_no (pa n:Int) (c:Calls Tryz.prog 58 #[.pointer (some ⟨p,0,.none⟩),.int .u64 pa,.int .i64 n] w fun e w' => e = .returned (.tuple #[.slice .none 0 0,.bool false])∧Below w.heap.size w w') :
  Calls Tryz.prog 20 #[.pointer (some ⟨p,0,.none⟩),.int .u64 pa,.int .i64 n] w fun e w' => e = .returned (.tuple #[.slice .none 0 0,.bool false])∧Below w.heap.size w w' := by
 go_enter Tryz.func20,Tryz.ntmps20
 go_wp2_with (go_at_call 58; refine c.mono ?_; rintro e w1 ⟨rfl,hb⟩)
 go_ret2
 exact ⟨rfl,hb⟩
theorem read_zero (h:Mem w p b m N B nx hd cnt) (pa:Int) : Calls Tryz.prog 20 #[.pointer (some ⟨p,0,.none⟩),.int .u64 pa,.int .i64 0] w fun e w' => e = .returned (.tuple #[.slice .none 0 0,.bool true])∧w'=w := by
 have c := reach_zero h pa
 clear h
 go_enter Tryz.func20,Tryz.ntmps20
 go_wp2_with (go_at_call 58; refine c.mono ?_; rintro e w0 ⟨rfl,rfl⟩)
 go_ret2
 exact ⟨rfl,rfl⟩
end
end Rm
namespace Rm
open Go.RowKit
def spn (l:Int) : Int := if l=0 then 4096 else if l=1 then 2097152 else if l=2 then 1073741824 else 549755813888
theorem spn0 : spn 0=4096 := rfl
theorem spn1 : spn 1=2097152 := rfl
theorem spn2 : spn 2=1073741824 := rfl
theorem spn3 : spn 3=549755813888 := rfl
def ix (va l:Int) : Int := va / spn l % 512
theorem ix_b (va l:Int) : 0≤ix va l∧ix va l<512 := by unfold ix; omega
theorem span_any (l:Int) (hl:l=0∨l=1∨l=2∨l=3) (w:World) : Calls Tryz.prog 110 #[.int .i64 l] w fun e w' => e = .returned (.int .u64 (spn l))∧w'=w := by
 rcases hl with rfl | rfl | rfl | rfl
 all_goals
  go_enter Tryz.func110,Tryz.ntmps110
  go_wp2
  go_ret
  exact ⟨rfl,rfl⟩
theorem index_any (va l:Int) (hv:0≤va∧va<18446744073709551616) (hl:l=0∨l=1∨l=2) (w:World) : Calls Tryz.prog 151 #[.int .u64 va,.int .i64 l] w fun e w' => e = .returned (.int .u64 (ix va l))∧w'=w := by
 rcases hl with rfl | rfl | rfl
 all_goals
  simp only [ix,spn0,spn1,spn2]
  go_enter Tryz.func151,Tryz.ntmps151
  go_wp2
  go_ret
  exact ⟨rfl,rfl⟩
theorem and_mask (i:Nat) (hi:i≤64) (v:Int) (hv:0≤v∧v<18446744073709551616) : bits .and .u64 v (2 ^ i - 1)=v % 2 ^ i :=
 bits_mask .u64 64 (by decide) wraps_u64 i hi v hv.1 hv.2
theorem inSpan_any (a l:Int) (hv:0≤a∧a<18446744073709551616) (hl:l=0∨l=1∨l=2∨l=3) (w:World) : Calls Tryz.prog 57 #[.int .u64 a,.int .i64 l] w fun e w' => e = .returned (.int .u64 (a % spn l))∧w'=w := by
 have c := span_any l hl
 have m0 : Hid (bits .and .u64 a 4095=a % 4096) := and_mask 12 (by omega) a hv
 have m1 : Hid (bits .and .u64 a 2097151=a % 2097152) := and_mask 21 (by omega) a hv
 have m2 : Hid (bits .and .u64 a 1073741823=a % 1073741824) := and_mask 30 (by omega) a hv
 have m3 : Hid (bits .and .u64 a 549755813887=a % 549755813888) := and_mask 39 (by omega) a hv
 rcases hl with rfl | rfl | rfl | rfl
 all_goals
  simp only [spn0,spn1,spn2,spn3] at c ⊢
  go_enter Tryz.func57,Tryz.ntmps57
  go_wp2_with (go_at_call 110; refine (c _).mono ?_; rintro e w0 ⟨rfl,rfl⟩)
  go_ret
 ·rw [← m0.out]; exact ⟨rfl,rfl⟩
 ·rw [← m1.out]; exact ⟨rfl,rfl⟩
 ·rw [← m2.out]; exact ⟨rfl,rfl⟩
 ·rw [← m3.out]; exact ⟨rfl,rfl⟩
theorem mayBeNode_any (pa:Int) (hp:0≤pa∧pa<18446744073709551616) (w:World) : Calls Tryz.prog 153 #[.int .u64 pa] w fun e w' => e = .returned (.bool (decide (pa % 4096=0∧pa≠2147483648)))∧w'=w := by
 by_cases k0 : pa % 4096=0
 ·by_cases k1 : pa=2147483648
  ·have e : decide (pa % 4096=0∧pa≠2147483648)=false := by simp [k1]
   rw [e]
   go_enter Tryz.func153,Tryz.ntmps153
   go_wp2
   go_ret
   exact ⟨rfl,rfl⟩
  ·have e : decide (pa % 4096=0∧pa≠2147483648)=true := by simp [k0,k1]
   rw [e]
   go_enter Tryz.func153,Tryz.ntmps153
   go_wp2
   go_ret
   exact ⟨by simp [k1],rfl⟩
 ·have e : decide (pa % 4096=0∧pa≠2147483648)=false := by simp [k0]
  rw [e]
  go_enter Tryz.func153,Tryz.ntmps153
  go_wp2
  go_ret
  exact ⟨rfl,rfl⟩
end Rm
namespace Rm
open Go.RowKit
def hs (e c:Int) : Bool := bits .and .u64 e c == c
def ho (e c:Int) : Bool := bits .and .u64 e c != 0
def adE (e:Int) : Int := e / 1024*4096 % 18446744073709551616
theorem adE_b (e:Int) : 0≤adE e∧adE e<18446744073709551616 := by unfold adE; omega
def kd (e l:Int) : Int := if hs e 1=false then 0 else if 18014398509481984≤e then 1 else if hs e 4=true∧hs e 2=false then 1 else if ho e 10=true then (if adE e % spn l=0 then 2 else 1) else if l=0 then 1 else if ho e 208=true then 1 else 3
theorem has_any (e c:Int) (w:World) : Calls Tryz.prog 109 #[.int .u64 e,.int .u64 c] w fun r w' => r = .returned (.bool (hs e c))∧w'=w := by
 go_enter Tryz.func109,Tryz.ntmps109
 go_wp2
 go_ret
 exact ⟨rfl,rfl⟩
theorem hasOne_any (e c:Int) (w:World) : Calls Tryz.prog 188 #[.int .u64 e,.int .u64 c] w fun r w' => r = .returned (.bool (ho e c))∧w'=w := by
 go_enter Tryz.func188,Tryz.ntmps188
 go_wp2
 go_ret
 exact ⟨rfl,rfl⟩
theorem readIf_any (e:Int) (w:World) : Calls Tryz.prog 187 #[.int .u64 e] w fun r w' => r = .returned (.bool (!hs e 4 || hs e 2))∧w'=w := by
 cases h4 : hs e 4 <;> cases h2 : hs e 2
 all_goals
  go_enter Tryz.func187,Tryz.ntmps187
  go_wp2_with (first | (go_at_call 109; refine (has_any _ _ _).mono ?_; rintro r w0 ⟨rfl,rfl⟩))
  go_ret
  exact ⟨rfl,rfl⟩
theorem address_any (e:Int) (w:World) (he:0≤e∧e<18446744073709551616) : Calls Tryz.prog 56 #[.int .u64 e] w fun r w' => r = .returned (.int .u64 (adE e))∧w'=w := by
 have h : IntKind.u64.wrap (e / 1024*4096)=adE e := IntKind.wrap_u64 _
 rw [← h]
 clear h
 go_enter Tryz.func56,Tryz.ntmps56
 go_wp2
 go_ret
 exact ⟨rfl,rfl⟩
set_option maxHeartbeats 1000000 in
theorem kind_any (e l:Int) (he:0≤e∧e<18446744073709551616) (hl:l=0∨l=1∨l=2) (w:World) : Calls Tryz.prog 154 #[.int .u64 e,.int .i64 l] w fun r w' => r = .returned (.int .i64 (kd e l))∧w'=w := by
 have c46 := fun W => address_any e W he
 have c51 := fun W => inSpan_any (adE e) l (adE_b e) (by omega) W
 obtain ⟨x,hx⟩ : ∃ x,x=adE e % spn l := ⟨_,rfl⟩
 have e1 : ∀ k,kd e l=k ↔ (if hs e 1=false then 0 else if 18014398509481984≤e then 1 else if hs e 4=true∧hs e 2=false then 1 else if ho e 10=true then (if x=0 then 2 else 1) else if l=0 then 1 else if ho e 208=true then 1 else 3)=k := fun k => by rw [hx]; exact Iff.rfl
 rw [← hx] at c51
 cases h1 : hs e 1
 ·have ek : kd e l=0 := (e1 0).2 (by simp [h1])
  rw [ek]
  clear e1 hx c46 c51
  go_enter Tryz.func154,Tryz.ntmps154
  go_wp2_with (first | (go_at_call 109; refine (has_any _ _ _).mono ?_; rintro r w0 ⟨rfl,rfl⟩))
  go_ret
  exact ⟨rfl,rfl⟩
 by_cases h54 : 18014398509481984≤e
 ·have ek : kd e l=1 := (e1 1).2 (by simp [h1,h54])
  rw [ek]
  have h55 : ¬ e / 18014398509481984=0 := by omega
  clear e1 hx c46 c51
  go_enter Tryz.func154,Tryz.ntmps154
  go_wp2_with (first | (go_at_call 109; refine (has_any _ _ _).mono ?_; rintro r w0 ⟨rfl,rfl⟩))
  go_ret
  exact ⟨rfl,rfl⟩
 have h55 : e / 18014398509481984=0 := by omega
 cases h6 : (!hs e 4 || hs e 2)
 ·have h6' : hs e 4=true∧hs e 2=false := by revert h6; cases hs e 4 <;> cases hs e 2 <;> simp
  have ek : kd e l=1 := (e1 1).2 (by simp [h1,h54,h6'])
  rw [ek]
  have c68 := fun W => readIf_any e W
  rw [h6] at c68
  clear e1 hx c46 c51 h6 h6'
  go_enter Tryz.func154,Tryz.ntmps154
  go_wp2_with (first | (go_at_call 109; refine (has_any _ _ _).mono ?_; rintro r w0 ⟨rfl,rfl⟩) | (go_at_call 187; refine (c68 _).mono ?_; rintro r w0 ⟨rfl,rfl⟩))
  go_ret
  exact ⟨rfl,rfl⟩
 have h6' : ¬ (hs e 4=true∧hs e 2=false) := by revert h6; cases hs e 4 <;> cases hs e 2 <;> simp
 have c68 := fun W => readIf_any e W
 rw [h6] at c68
 clear h6
 cases h10 : ho e 10
 ·by_cases hl0 : l=0
  ·have ek : kd e l=1 := (e1 1).2 (by simp [h1,h54,h6',h10,hl0])
   rw [ek]
   clear e1 hx c46 c51 h6'
   go_enter Tryz.func154,Tryz.ntmps154
   go_wp2_with (first | (go_at_call 109; refine (has_any _ _ _).mono ?_; rintro r w0 ⟨rfl,rfl⟩) | (go_at_call 187; refine (c68 _).mono ?_; rintro r w0 ⟨rfl,rfl⟩) | (go_at_call 188; refine (hasOne_any _ _ _).mono ?_; rintro r w0 ⟨rfl,rfl⟩))
   go_ret
   exact ⟨rfl,rfl⟩
  ·cases h208 : ho e 208
   ·have ek : kd e l=3 := (e1 3).2 (by simp [h1,h54,h6',h10,hl0,h208])
    rw [ek]
    clear e1 hx c46 c51 h6'
    go_enter Tryz.func154,Tryz.ntmps154
    go_wp2_with (first | (go_at_call 109; refine (has_any _ _ _).mono ?_; rintro r w0 ⟨rfl,rfl⟩) | (go_at_call 187; refine (c68 _).mono ?_; rintro r w0 ⟨rfl,rfl⟩) | (go_at_call 188; refine (hasOne_any _ _ _).mono ?_; rintro r w0 ⟨rfl,rfl⟩))
    go_ret
    exact ⟨rfl,rfl⟩
   ·have ek : kd e l=1 := (e1 1).2 (by simp [h1,h54,h6',h10,hl0,h208])
    rw [ek]
    clear e1 hx c46 c51 h6'
    go_enter Tryz.func154,Tryz.ntmps154
    go_wp2_with (first | (go_at_call 109; refine (has_any _ _ _).mono ?_; rintro r w0 ⟨rfl,rfl⟩) | (go_at_call 187; refine (c68 _).mono ?_; rintro r w0 ⟨rfl,rfl⟩) | (go_at_call 188; refine (hasOne_any _ _ _).mono ?_; rintro r w0 ⟨rfl,rfl⟩))
    go_ret
    exact ⟨rfl,rfl⟩
 ·by_cases hx0 : x=0
  ·have ek : kd e l=2 := (e1 2).2 (by simp [h1,h54,h6',h10,hx0])
   rw [ek]
   clear e1 hx h6'
   go_enter Tryz.func154,Tryz.ntmps154
   go_wp2_with (first | (go_at_call 109; refine (has_any _ _ _).mono ?_; rintro r w0 ⟨rfl,rfl⟩) | (go_at_call 187; refine (c68 _).mono ?_; rintro r w0 ⟨rfl,rfl⟩) | (go_at_call 188; refine (hasOne_any _ _ _).mono ?_; rintro r w0 ⟨rfl,rfl⟩) | (go_at_call 56; refine (c46 _).mono ?_; rintro r w0 ⟨rfl,rfl⟩) | (go_at_call 57; refine (c51 _).mono ?_; rintro r w0 ⟨rfl,rfl⟩))
   go_ret
   exact ⟨rfl,rfl⟩
  ·have ek : kd e l=1 := (e1 1).2 (by simp [h1,h54,h6',h10,hx0])
   rw [ek]
   clear e1 hx h6'
   go_enter Tryz.func154,Tryz.ntmps154
   go_wp2_with (first | (go_at_call 109; refine (has_any _ _ _).mono ?_; rintro r w0 ⟨rfl,rfl⟩) | (go_at_call 187; refine (c68 _).mono ?_; rintro r w0 ⟨rfl,rfl⟩) | (go_at_call 188; refine (hasOne_any _ _ _).mono ?_; rintro r w0 ⟨rfl,rfl⟩) | (go_at_call 56; refine (c46 _).mono ?_; rintro r w0 ⟨rfl,rfl⟩) | (go_at_call 57; refine (c51 _).mono ?_; rintro r w0 ⟨rfl,rfl⟩))
   go_ret
   exact ⟨rfl,rfl⟩
end Rm
namespace Rm
open Go.RowKit
section
variable {w:World} {p b m N:Nat} {B:Nat→Int} {L:List Nat}
theorem hdL_in {f:Nat} (hf:f<N) : hdL N L (2147483648+f*4096) = !decide (f ∈ L) := by
 have h := hdL_addr N L f hf
 exact h
theorem load_any (h:Ram w p b m N B L) (pa:Int) (hp:0≤pa∧pa<18446744073709551616) : Calls Tryz.prog 152 #[.pointer (some ⟨p,0,.none⟩),.int .u64 pa,.int .i64 8] w fun e w' => (∃ x ok,e = .returned (.tuple #[.int .u64 x,.bool ok])∧0≤x∧x<18446744073709551616)∧Below w.heap.size w w' := by
 have n2 := h.mem.n2
 by_cases ho : 2147483648≤pa∧pa - 2147483648+8≤4096*N
 ·obtain ⟨o,rfl⟩ : ∃ o : Nat,pa=2147483648+o := ⟨(pa - 2147483648).toNat,by omega⟩
  by_cases hh : ∀ f : Nat,o / 4096≤f→f*4096<o+8→hdL N L (2147483648+f*4096)=true
  ·refine (load_ok h.mem o 8 (by omega) (by omega) hh).mono ?_
   rintro e w' ⟨he,hb⟩
   have nb := num_bd B h.mem.bb o 8
   exact ⟨⟨_,_,he,nb.1,by have := nb.2; simpa using this⟩,hb⟩
  ·simp only [Classical.not_forall] at hh
   obtain ⟨f,h1,h2,h3⟩ := hh
   have h3' : hdL N L (2147483648+f*4096)=false := by simpa using h3
   refine (load_no _ 8 (access_no _ 8 0 false (reach_hole h.mem o 8 (by omega) (by omega) f h1 h2 h3'))).mono ?_
   rintro e w' ⟨he,hb⟩
   exact ⟨⟨0,false,he,by omega,by omega⟩,hb⟩
 ·refine (load_no pa 8 (access_no pa 8 0 false (reach_out h.mem pa 8 hp (by omega) (by omega) ho))).mono ?_
  rintro e w' ⟨he,hb⟩
  exact ⟨⟨0,false,he,by omega,by omega⟩,hb⟩
theorem load_held (h:Ram w p b m N B L) (i k:Nat) (hi:i<N) (hL:i ∉ L) (hk:k<512) : Calls Tryz.prog 152 #[.pointer (some ⟨p,0,.none⟩),.int .u64 (2147483648+i*4096+k*8),.int .i64 8] w fun e w' => e = .returned (.tuple #[.int .u64 (num B (i*4096+k*8) 8),.bool true])∧Below w.heap.size w w' := by
 have := load_ok h.mem (i*4096+k*8) 8 (by omega) (by omega) (fun f h1 h2 => by
  obtain rfl : f=i := by omega
  rw [hdL_in hi]
  simp [hL])
 rw [show (2147483648+((i*4096+k*8 : Nat) : Int))=2147483648+i*4096+k*8 by omega] at this
 exact this
theorem load_free (h:Ram w p b m N B L) (nd:Int) (k:Nat) (hn:0≤nd∧nd<18446744073709551616) (ha:nd % 4096=0) (hk:k<512) (hno:∀ i : Nat,i<N→i ∉ L→nd≠2147483648+i*4096) : Calls Tryz.prog 152 #[.pointer (some ⟨p,0,.none⟩),.int .u64 (nd+k*8),.int .i64 8] w fun e w' => e = .returned (.tuple #[.int .u64 0,.bool false])∧Below w.heap.size w w' := by
 have n2 := h.mem.n2
 by_cases ho : 2147483648≤nd+k*8∧nd+k*8 - 2147483648+8≤4096*N
 ·obtain ⟨i,rfl⟩ : ∃ i : Nat,nd=2147483648+i*4096 := ⟨((nd - 2147483648) / 4096).toNat,by omega⟩
  have hiN : i<N := by omega
  have hiL : i ∈ L := by
   by_cases hL : i ∈ L
   ·exact hL
   ·exact absurd rfl (hno i hiN hL)
  have c := reach_hole h.mem (i*4096+k*8) 8 (by omega) (by omega) i (by omega) (by omega) (by rw [hdL_in hiN]; simp [hiL])
  rw [show (2147483648+((i*4096+k*8 : Nat) : Int))=2147483648+i*4096+k*8 by omega] at c
  exact load_no _ 8 (access_no _ 8 0 false c)
 ·exact load_no _ 8 (access_no _ 8 0 false (reach_out h.mem (nd+k*8) 8 (by omega) (by omega) (by omega) ho))
end
end Rm
namespace Rm
open Go.RowKit
def fi (nd:Int) : Nat := ((nd - 2147483648) / 4096).toNat
def ndB (N:Nat) (L:List Nat) (nd:Int) : Bool := decide (nd=2147483648+fi nd*4096∧1≤fi nd∧fi nd<N∧fi nd ∉ L)
def ent (B:Nat→Int) (nd va l:Int) : Int := num B (fi nd*4096+(ix va l).toNat*8) 8
def st (nd va l:Int) : Int := nd+ix va l*8
structure Pt where
 a0 : Int
 a1 : Int
 a2 : Int
 l : Int
 e : Int
 k : Int
def wk (N:Nat) (L:List Nat) (B:Nat→Int) (va:Int) : Nat→Int→Int→Int→Int→Int→Pt
 | 0,nd,a0,a1,a2,e => if ndB N L nd=true then ⟨st nd va 0,a1,a2,0,ent B nd va 0,kd (ent B nd va 0) 0⟩ else ⟨a0,a1,a2,0,e,4⟩
 | l+1,nd,a0,a1,a2,e => if ndB N L nd=true then
   (if kd (ent B nd va (l+1 : Nat)) (l+1 : Nat)=3 then wk N L B va l (adE (ent B nd va (l+1 : Nat))) a0 (if l=0 then st nd va 1 else a1) (if l=1 then st nd va 2 else a2) (ent B nd va (l+1 : Nat))
    else ⟨a0,if l=0 then st nd va 1 else a1,if l=1 then st nd va 2 else a2,(l+1 : Nat),ent B nd va (l+1 : Nat),kd (ent B nd va (l+1 : Nat)) (l+1 : Nat)⟩)
  else ⟨a0,a1,a2,(l+1 : Nat),e,4⟩
def look (N:Nat) (L:List Nat) (B:Nat→Int) (root va:Int) : Pt := wk N L B va 2 root 0 0 0 0
def Pt.val (x:Pt) : Value := .agg #[.int .u64 x.a0,.int .u64 x.a1,.int .u64 x.a2,.int .i64 x.l,.int .u64 x.e,.int .i64 x.k]
theorem kd0 (e:Int) : kd e 0≠3 := by
 unfold kd
 split
 ·omega
 split
 ·omega
 split
 ·omega
 split
 ·split <;> omega
 ·simp
theorem ndB_spec {N:Nat} {L:List Nat} {nd:Int} (h:ndB N L nd=true) : nd=2147483648+fi nd*4096∧1≤fi nd∧fi nd<N∧fi nd ∉ L := of_decide_eq_true h
theorem ndB_not {N:Nat} {L:List Nat} {nd:Int} (h:ndB N L nd=false) (ha:nd % 4096=0) (hb:nd≠2147483648) : ∀ i : Nat,i<N→i ∉ L→nd≠2147483648+i*4096 := fun i hi hL e => by
 have hf : fi nd=i := by unfold fi; omega
 have := of_decide_eq_false h
 rw [hf] at this
 exact this ⟨e,by omega,hi,hL⟩
theorem ent_b {B:Nat→Int} (hB:∀ i,0≤B i∧B i<256) (nd va l:Int) : 0≤ent B nd va l∧ent B nd va l<18446744073709551616 := by
 have := num_bd B hB (fi nd*4096+(ix va l).toNat*8) 8
 have h2 := this.2
 refine ⟨this.1,?_⟩
 unfold ent
 simpa using h2
section
variable {w:World} {p b m N:Nat} {B:Nat→Int} {L:List Nat}
theorem load_nd (h:Ram w p b m N B L) (nd va l:Int) (hn:ndB N L nd=true) : Calls Tryz.prog 152 #[.pointer (some ⟨p,0,.none⟩),.int .u64 (nd+ix va l*8),.int .i64 8] w fun e w' => e = .returned (.tuple #[.int .u64 (ent B nd va l),.bool true])∧Below w.heap.size w w' := by
 obtain ⟨h1,h2,h3,h4⟩ := ndB_spec hn
 have hb := ix_b va l
 have c := load_held h (fi nd) (ix va l).toNat h3 h4 (by omega)
 rw [show (2147483648+(fi nd:Int)*4096+((ix va l).toNat : Int)*8)=nd+ix va l*8 by omega] at c
 exact c
theorem load_nd_no (h:Ram w p b m N B L) (nd va l:Int) (hr:0≤nd∧nd<18446744073709551616) (hn:ndB N L nd=false) (ha:nd % 4096=0) (hb:nd≠2147483648) : Calls Tryz.prog 152 #[.pointer (some ⟨p,0,.none⟩),.int .u64 (nd+ix va l*8),.int .i64 8] w fun e w' => e = .returned (.tuple #[.int .u64 0,.bool false])∧Below w.heap.size w w' := by
 have hi := ix_b va l
 have c := load_free h nd (ix va l).toNat hr ha (by omega) (ndB_not hn ha hb)
 rw [show (nd+((ix va l).toNat : Int)*8)=nd+ix va l*8 by omega] at c
 exact c
theorem meet_any (l at_ e:Int) (w:World) : Calls Tryz.prog 242 #[.agg #[],.int .i64 l,.int .u64 at_,.int .u64 e] w fun r w' => r = .returned (.tuple #[.int .u64 e,.bool true])∧w'=w.alloc (.cells #[] 171) := by
 go_enter Tryz.func242,Tryz.ntmps242
 go_wp2
 go_ret2
 exact ⟨rfl,rfl⟩
end
end Rm
namespace Rm
open Go.RowKit
def pth (a0 a1 a2 l e k:Int) : Value := .agg #[.int .u64 a0,.int .u64 a1,.int .u64 a2,.int .i64 l,.int .u64 e,.int .i64 k]
theorem below1 (w:World) (o:Obj) : Below w.heap.size w (w.alloc o) := (Below.refl w.heap.size w).alloc (Nat.le_refl _) o
theorem below2 (w:World) (o o1:Obj) : Below w.heap.size w ((w.alloc o).alloc o1) := (below1 w o).alloc (by simp) o1
theorem below3 (w:World) (o o1 o2:Obj) : Below w.heap.size w (((w.alloc o).alloc o1).alloc o2) := (below2 w o o1).alloc (by simp only [World.size_alloc]; omega) o2
section
variable {w:World} {v:Value}
end
end Rm
end Go.Proofs.YtabnipbdbnmmpaaGreatDoor
