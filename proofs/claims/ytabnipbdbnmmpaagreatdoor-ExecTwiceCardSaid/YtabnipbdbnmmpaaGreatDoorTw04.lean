import Derived.Test.YtabnipbdbnmmpaaGreatDoorTw03
set_option linter.unusedVariables false
set_option linter.unusedSimpArgs false
namespace Go.Proofs.YtabnipbdbnmmpaaGreatDoor.Rm
open Go.RowKit
section
variable {w : World} {p b m N cnt : Nat} {B : Nat → Int} {nx : Int} {hd : Int → Bool}
set_option maxHeartbeats 2000000 in
theorem reach_ok (h : Mem w p b m N B nx hd cnt) (o n : Nat) (hn : 1 ≤ n) (ho : o + n ≤ 4096 * N) (hh : ∀ f : Nat, o / 4096 ≤ f → f * 4096 < o + n → hd (2147483648 + f * 4096) = true) :
  Calls Tryz.prog 58 #[.pointer (some ⟨p, 0, .none⟩), .int .u64 (2147483648 + o), .int .i64 n] w fun e w' => e = .returned (.tuple #[.slice (some ⟨b, o, .none⟩) n (4096 * N - o), .bool true]) ∧ Below w.heap.size w w' := by
 have c := made_some p b _ _ w h.c0
 have k0 := h.c0
 have n2 := h.n2
 have i1 : ¬ ((n : Int) < 0) := by omega
 have i2 : ((n : Int) == 0) = false := by simp; omega
 have i3 : (n : Int) ≤ 4096 * N - o := by omega
 have i4 : (o : Int) < 4096 * N := by omega
 have HM : Hid (Mem w p b m N B nx hd cnt) := h
 clear h
 go_enter Tryz.func58, Tryz.ntmps58
 go_wp2_with (first | (go_at_call 33; refine c.mono ?_; rintro e w0 ⟨rfl, rfl⟩) | fail)
 go_quiet (fail)
 go_wp2
 simp only [show (2147483648 + (o : Int) - 2147483648) = o by omega]
 go_loopw [11] (fun k wr => ∃ f : Nat, o / 4096 ≤ f ∧ f * 4096 < o + n + 4096 ∧ k = .int .u64 (2147483648 + f * 4096) ∧ Below w0.heap.size w0 wr) (fun k _ => (2147483648 + o + n + 4096 - intOf k).toNat)
 case atStart => exact ⟨o / 4096, by omega, by omega, congrArg _ (by omega), below_drewN (Below.refl _ _) _⟩
 case round =>
  obtain ⟨f, hf1, hf2, rfl, hB⟩ := hrel
  have M := HM.out.below hB
  have HB : Hid (Below w0.heap.size w0 wr) := hB
  by_cases hfn : f * 4096 < o + n
  ·have j1 : (2147483648 + (f : Int) * 4096) < 2147483648 + (o + n) := by omega
   have q : Hid (o / 4096 ≤ f + 1 ∧ (f + 1) * 4096 < o + n + 4096 ∧ Value.int .u64 (2147483648 + (f : Int) * 4096 + 4096) = .int .u64 (2147483648 + ((f + 1 : Nat) : Int) * 4096) ∧ (2147483648 + (o : Int) + n + 4096 - intOf (.int .u64 (2147483648 + (f : Int) * 4096 + 4096))).toNat < (2147483648 + (o : Int) + n + 4096 - intOf (.int .u64 (2147483648 + (f : Int) * 4096))).toNat) := by
    refine ⟨by omega, (by rw [Nat.succ_mul]; exact Nat.add_lt_add_right hfn 4096), ?_, ?_⟩
    ·rw [show ((f + 1 : Nat) : Int) = (f : Int) + 1 by omega, show 2147483648 + ((f : Int) + 1) * 4096 = 2147483648 + (f : Int) * 4096 + 4096 by omega]
    ·simp only [intOf]
     omega
   have c1 := isHeld_any M (2147483648 + f * 4096) (by omega)
   rw [hh f hf1 hfn] at c1
   clear M hB
   go_wp2_with (first | (go_at_call 111; refine c1.mono ?_; rintro e w1 ⟨rfl, hb1⟩) | fail)
   exact ⟨⟨f + 1, q.out.1, q.out.2.1, q.out.2.2.1, HB.out.trans (hb1.mono HB.out.size)⟩, q.out.2.2.2⟩
  ·have j1 : ¬ ((2147483648 + (f : Int) * 4096) < 2147483648 + (o + n)) := by omega
   have k0 := M.c0
   clear M hB
   go_wp2
   go_ret2
   exact ⟨rfl, HB.out⟩
theorem number_read (b o n len cap : Nat) (hn : n = 1 ∨ n = 2 ∨ n = 4 ∨ n = 8) (B : Nat → Int) (v : Int) (w : World) (hl : n ≤ len) (hB : ∀ i, 0 ≤ B i ∧ B i < 256) (hc : ∀ i, i < n → w.cell? ⟨b, o + i, .none⟩ = some (.int .u8 (B (o + i)))) :
  Calls Tryz.prog (if n = 1 then 209 else if n = 2 then 210 else if n = 4 then 75 else 78) #[.slice (some ⟨b, o, .none⟩) len cap, .bool false, .int .u64 v] w fun e w' => e = .returned (.int .u64 (num B o n)) ∧ w' = w := by
 rcases hn with rfl | rfl | rfl | rfl
 ·exact number8_read b o len cap B v w hl hB hc
 ·exact number16_read b o len cap B v w hl hB hc
 ·exact number32_read b o len cap B v w hl hB hc
 ·exact number64_read b o len cap B v w hl hB hc
theorem number_write (b o n len cap : Nat) (hn : n = 1 ∨ n = 2 ∨ n = 4 ∨ n = 8) (v : Int) (w : World) (hl : n ≤ len) (hc : ∀ i, i < n → (w.cell? ⟨b, o + i, .none⟩).isSome = true) (hf : ∀ i, i < n → w.frozen? ⟨b, o + i, .none⟩ = false) (hv : 0 ≤ v ∧ v < 18446744073709551616) :
  Calls Tryz.prog (if n = 1 then 209 else if n = 2 then 210 else if n = 4 then 75 else 78) #[.slice (some ⟨b, o, .none⟩) len cap, .bool true, .int .u64 v] w fun e w' => e = .returned (.int .u64 (md v n)) ∧ w' = w.setCells b o ((le v n).map (.int .u8)) := by
 rcases hn with rfl | rfl | rfl | rfl
 ·exact number8_write b o len cap v w hl hc hf hv
 ·exact number16_write b o len cap v w hl hc hf hv
 ·exact number32_write b o len cap v w hl hc hf hv
 ·exact number64_write b o len cap v w hl hc hf hv
set_option maxHeartbeats 1000000 in
theorem access_read (h : Mem w p b m N B nx hd cnt) (o n : Nat) (hn : n = 1 ∨ n = 2 ∨ n = 4 ∨ n = 8) (ho : o + n ≤ 4096 * N) (hh : ∀ f : Nat, o / 4096 ≤ f → f * 4096 < o + n → hd (2147483648 + f * 4096) = true) (v : Int) :
  Calls Tryz.prog 186 #[.pointer (some ⟨p, 0, .none⟩), .int .u64 (2147483648 + o), .int .i64 n, .bool false, .int .u64 v] w fun e w' => e = .returned (.tuple #[.int .u64 (num B o n), .bool true]) ∧ Below w.heap.size w w' := by
 have c := reach_ok h o n (by omega) ho hh
 have HM : Hid (Mem w p b m N B nx hd cnt) := h
 clear h hh
 have hR := fun w1 => number_read b o n n (4096 * N - o) hn B v w1 (Nat.le_refl _) HM.out.bb
 rcases hn with rfl | rfl | rfl | rfl
 all_goals
  go_enter Tryz.func186, Tryz.ntmps186
  go_wp2_with fail
  refine c.mono ?_
  rintro e w1 ⟨rfl, hb⟩
  have M1 := HM.out.below hb
  have c2 := hR w1 (fun i hi => M1.cb _ (by omega))
  simp only [Nat.reduceEqDiff, if_true, if_false, reduceIte] at c2
  clear M1 c hR
  go_wp2_with (first | (go_at_call 209; refine c2.mono ?_; rintro e w2 ⟨rfl, rfl⟩) | (go_at_call 210; refine c2.mono ?_; rintro e w2 ⟨rfl, rfl⟩) | (go_at_call 75; refine c2.mono ?_; rintro e w2 ⟨rfl, rfl⟩) | (go_at_call 78; refine c2.mono ?_; rintro e w2 ⟨rfl, rfl⟩))
  go_ret2
  exact ⟨rfl, hb⟩
end
end Go.Proofs.YtabnipbdbnmmpaaGreatDoor.Rm
namespace Go.Proofs.YtabnipbdbnmmpaaGreatDoor.Rm
open Go.RowKit
def RowB (w : World) (g n : Nat) (R : Nat → Int) : Prop := ∀ i, i < n → w.cell? ⟨g, i, .none⟩ = some (.int .u8 (R i))
theorem RowB.below {w w' : World} {g n k : Nat} {R : Nat → Int} (h : RowB w g n R) (b : Below k w w') (hg : g < k) : RowB w' g n R := fun i hi => (b.cell (p := ⟨g, i, .none⟩) hg).trans (h i hi)
section
variable {w : World} {p b m N cnt : Nat} {B : Nat → Int} {nx : Int} {hd : Int → Bool}
set_option maxHeartbeats 1000000 in
theorem access_write (h : Mem w p b m N B nx hd cnt) (o n : Nat) (hn : n = 1 ∨ n = 2 ∨ n = 4 ∨ n = 8) (ho : o + n ≤ 4096 * N) (hh : ∀ f : Nat, o / 4096 ≤ f → f * 4096 < o + n → hd (2147483648 + f * 4096) = true) (v : Int) (hv : 0 ≤ v ∧ v < 18446744073709551616) :
  Calls Tryz.prog 186 #[.pointer (some ⟨p, 0, .none⟩), .int .u64 (2147483648 + o), .int .i64 n, .bool true, .int .u64 v] w fun e w' => e = .returned (.tuple #[.int .u64 (md v n), .bool true]) ∧ Mem w' p b m N (over B o (le v n)) nx hd cnt ∧ Fra p b m w w' := by
 have c := reach_ok h o n (by omega) ho hh
 have HM : Hid (Mem w p b m N B nx hd cnt) := h
 clear h hh
 have hR := fun w1 => number_write b o n n (4096 * N - o) hn v w1 (Nat.le_refl _)
 have HE : Hid (∀ w1 w2, Below w.heap.size w w1 → w2 = w1.setCells b o ((le v n).map (.int .u8)) → Mem w2 p b m N (over B o (le v n)) nx hd cnt ∧ Fra p b m w w2) := fun w1 w2 hb e => by
  subst e
  exact ⟨(HM.out.below hb).setCells o _ (by rw [le_len]; exact ho) (le_bd v _), (Fra.below (p := p) (b := b) (m := m) hb).setCells o _⟩
 rcases hn with rfl | rfl | rfl | rfl
 all_goals
  go_enter Tryz.func186, Tryz.ntmps186
  go_wp2_with fail
  refine c.mono ?_
  rintro e w1 ⟨rfl, hb⟩
  have M1 := HM.out.below hb
  have c2 := hR w1 (fun i hi => by rw [M1.cb _ (by omega)]; rfl) (fun i hi => M1.fb _ (by omega)) hv
  simp only [Nat.reduceEqDiff, if_true, if_false, reduceIte] at c2
  clear M1 c hR
  go_wp2_with (first | (go_at_call 209; refine c2.mono ?_; rintro e w2 ⟨rfl, hw⟩; have hE := HE.out w1 w2 hb hw; clear hw) | (go_at_call 210; refine c2.mono ?_; rintro e w2 ⟨rfl, hw⟩; have hE := HE.out w1 w2 hb hw; clear hw) | (go_at_call 75; refine c2.mono ?_; rintro e w2 ⟨rfl, hw⟩; have hE := HE.out w1 w2 hb hw; clear hw) | (go_at_call 78; refine c2.mono ?_; rintro e w2 ⟨rfl, hw⟩; have hE := HE.out w1 w2 hb hw; clear hw))
  go_ret2
  exact ⟨rfl, hE⟩
theorem load_ok (h : Mem w p b m N B nx hd cnt) (o n : Nat) (hn : n = 1 ∨ n = 2 ∨ n = 4 ∨ n = 8) (ho : o + n ≤ 4096 * N) (hh : ∀ f : Nat, o / 4096 ≤ f → f * 4096 < o + n → hd (2147483648 + f * 4096) = true) :
  Calls Tryz.prog 152 #[.pointer (some ⟨p, 0, .none⟩), .int .u64 (2147483648 + o), .int .i64 n] w fun e w' => e = .returned (.tuple #[.int .u64 (num B o n), .bool true]) ∧ Below w.heap.size w w' := by
 have c := access_read h o n hn ho hh 0
 clear h hh hn
 go_enter Tryz.func152, Tryz.ntmps152
 go_wp2_with (go_at_call 186; refine c.mono ?_; rintro e w1 ⟨rfl, hb⟩)
 go_ret2
 exact ⟨rfl, hb⟩
theorem store_ok (h : Mem w p b m N B nx hd cnt) (o n : Nat) (hn : n = 1 ∨ n = 2 ∨ n = 4 ∨ n = 8) (ho : o + n ≤ 4096 * N) (hh : ∀ f : Nat, o / 4096 ≤ f → f * 4096 < o + n → hd (2147483648 + f * 4096) = true) (v : Int) (hv : 0 ≤ v ∧ v < 18446744073709551616) :
  Calls Tryz.prog 160 #[.pointer (some ⟨p, 0, .none⟩), .int .u64 (2147483648 + o), .int .i64 n, .int .u64 v] w fun e w' => e = .returned (.bool true) ∧ Mem w' p b m N (over B o (le v n)) nx hd cnt ∧ Fra p b m w w' := by
 have c := access_write h o n hn ho hh v hv
 clear h hh hn hv
 go_enter Tryz.func160, Tryz.ntmps160
 go_wp2_with (go_at_call 186; refine c.mono ?_; rintro e w1 ⟨rfl, hM, hF⟩)
 go_ret
 exact ⟨rfl, hM, hF⟩
def CopyP (w : World) (n : Nat) (R : Nat → Int) (e : Ending) (w' : World) : Prop := ∃ g, w.heap.size ≤ g ∧ g < w'.heap.size ∧ e = .returned (.slice (some ⟨g, 0, .none⟩) n n) ∧ RowB w' g n R ∧ (∀ i, i < n → w'.frozen? ⟨g, i, .none⟩ = false) ∧ Below w.heap.size w w'
theorem copied_any (b o n cap : Nat) (R : Nat → Int) (w : World) (hn : 1 ≤ n) (hn2 : n ≤ 16777216) (hc : ∀ i, i < n → w.cell? ⟨b, o + i, .none⟩ = some (.int .u8 (R i))) :
  Calls Tryz.prog 59 #[.slice (some ⟨b, o, .none⟩) n cap] w fun e w' => CopyP w n R e w' := by
 have hmk := make_bytes n hn2 w
 have hb : b < w.heap.size := lt_of_cell (hc 0 hn)
 have HZ : ∀ i, i < n → (w.alloc (.cells (Zs n) 5)).cell? ⟨w.heap.size, i, .none⟩ = some (.int .u8 0) := fun i hi => by
  rw [World.cell?_alloc_at _ _ _ _ rfl]
  exact Zs_at n i hi
 have HZf : ∀ i, i < n → (w.alloc (.cells (Zs n) 5)).frozen? ⟨w.heap.size, i, .none⟩ = false := fun i hi => World.frozen?_alloc_new _ _ _ _
 have hg : w.heap.size < (w.alloc (.cells (Zs n) 5)).heap.size := by simp
 have hB0 : Below w.heap.size w (w.alloc (.cells (Zs n) 5)) := (Below.refl _ _).alloc (Nat.le_refl _) _
 have hcp : ∀ ty, (Builtin.copy_ #[24, 24] ty #[.slice (some ⟨w.heap.size, 0, .none⟩) n n, .slice (some ⟨b, o, .none⟩) n cap]).run Tryz.prog (w.alloc (.cells (Zs n) 5)) = .ok (.int .i64 n) ((w.alloc (.cells (Zs n) 5)).setCells w.heap.size 0 ((List.range n).map fun i => .int .u8 (R i))) := fun ty => by
  have := run_copy_cells (P := Tryz.prog) (w.alloc (.cells (Zs n) 5)) 24 24 ty 5 w.heap.size 0 n n ⟨b, o, .none⟩ n cap ((List.range n).map fun i => .int .u8 (R i)) Tryz.underlying24 info5 (by simp)
   (fun j v hj => by
    rw [addr_add]
    rw [List.getElem?_map] at hj
    by_cases hjn : j < n
    ·rw [List.getElem?_range hjn] at hj
     simp only [Option.map_some, Option.some.injEq] at hj
     subst hj
     rw [World.cell?_alloc_past _ _ _ (show b < w.heap.size from hb)]
     exact hc j hjn
    ·rw [List.getElem?_eq_none (by simp; omega)] at hj
     cases hj)
   (fun j hj => by rw [Nat.zero_add, HZ j (by simpa using hj)]; rfl) (fun j hj => by rw [Nat.zero_add]; exact HZf j (by simpa using hj)) (fun v hv => by simp only [List.mem_map] at hv; obtain ⟨i, _, rfl⟩ := hv; rfl)
  rw [this]
  simp [goInt]
 have HR : Hid (RowB ((w.alloc (.cells (Zs n) 5)).setCells w.heap.size 0 ((List.range n).map fun i => .int .u8 (R i))) w.heap.size n R) := fun i hi => by
  have := World.cell?_setCells_in w.heap.size ((List.range n).map fun i => Value.int .u8 (R i)) 0 (w.alloc (.cells (Zs n) 5)) (fun j hj => by rw [Nat.zero_add, HZ j (by simpa using hj)]; rfl) i (by simpa using hi)
  rw [Nat.zero_add] at this
  rw [this]
  simp
 have HRf : Hid (∀ i, i < n → ((w.alloc (.cells (Zs n) 5)).setCells w.heap.size 0 ((List.range n).map fun i => .int .u8 (R i))).frozen? ⟨w.heap.size, i, .none⟩ = false) := fun i hi => by rw [World.frozen?_setCells]; exact HZf i hi
 have HBl : Hid (Below w.heap.size w ((w.alloc (.cells (Zs n) 5)).setCells w.heap.size 0 ((List.range n).map fun i => .int .u8 (R i)))) := by
  have key : ∀ (us : List Value) (o : Nat) (w1 : World), Below w.heap.size w w1 → Below w.heap.size w (w1.setCells w.heap.size o us) := by
   intro us
   induction us with
   | nil => intro o w1 h; exact h
   | cons u us ih => intro o w1 h; exact ih (o + 1) _ (h.setCell (p := ⟨w.heap.size, o, .none⟩) (Nat.le_refl _) _)
  exact key _ 0 _ hB0
 have HS : Hid (w.heap.size < ((w.alloc (.cells (Zs n) 5)).setCells w.heap.size 0 ((List.range n).map fun i => .int .u8 (R i))).heap.size) := lt_of_cell (HR.out 0 hn)
 generalize (w.alloc (.cells (Zs n) 5)).setCells w.heap.size 0 ((List.range n).map fun i => .int .u8 (R i)) = w2 at *
 clear hc HZ HZf hB0 hg
 generalize w.alloc (.cells (Zs n) 5) = w1 at *
 go_enter Tryz.func59, Tryz.ntmps59
 go_wp2
 go_ret
 exact ⟨w.heap.size, Nat.le_refl _, HS.out, rfl, HR.out, HRf.out, HBl.out⟩
end
end Go.Proofs.YtabnipbdbnmmpaaGreatDoor.Rm
namespace Go.Proofs.YtabnipbdbnmmpaaGreatDoor.Rm
open Go.RowKit
def ReadP (w : World) (n : Nat) (R : Nat → Int) (e : Ending) (w' : World) : Prop := ∃ g, w.heap.size ≤ g ∧ g < w'.heap.size ∧ e = .returned (.tuple #[.slice (some ⟨g, 0, .none⟩) n n, .bool true]) ∧ RowB w' g n R ∧ (∀ i, i < n → w'.frozen? ⟨g, i, .none⟩ = false) ∧ Below w.heap.size w w'
section
variable {w : World} {p b m N cnt : Nat} {B : Nat → Int} {nx : Int} {hd : Int → Bool}
set_option maxHeartbeats 1000000 in
theorem read_ok (h : Mem w p b m N B nx hd cnt) (o n : Nat) (hn : 1 ≤ n) (ho : o + n ≤ 4096 * N) (hh : ∀ f : Nat, o / 4096 ≤ f → f * 4096 < o + n → hd (2147483648 + f * 4096) = true) :
  Calls Tryz.prog 20 #[.pointer (some ⟨p, 0, .none⟩), .int .u64 (2147483648 + o), .int .i64 n] w fun e w' => ReadP w n (fun i => B (o + i)) e w' := by
 have c := reach_ok h o n hn ho hh
 have HM : Hid (Mem w p b m N B nx hd cnt) := h
 have n2 := h.n2
 clear h hh
 have i1 : ((n : Int) == 0) = false := by simp; omega
 go_enter Tryz.func20, Tryz.ntmps20
 go_wp2_with fail
 refine c.mono ?_
 rintro e w1 ⟨rfl, hb⟩
 have M1 := HM.out.below hb
 have c2 := copied_any b o n (4096 * N - o) (fun i => B (o + i)) w1 hn (by omega) (fun i hi => M1.cb _ (by omega))
 clear M1 c
 have HB : Hid (Below w.heap.size w w1) := hb
 clear hb
 go_wp2_with fail
 refine c2.mono ?_
 rintro e w2 ⟨g, hg1, hg2, rfl, hr, hf, hb2⟩
 have HP : Hid (ReadP w n (fun i => B (o + i)) (.returned (.tuple #[.slice (some ⟨g, 0, .none⟩) n n, .bool true])) w2) := ⟨g, Nat.le_trans HB.out.size hg1, hg2, rfl, hr, hf, HB.out.trans (hb2.mono HB.out.size)⟩
 clear c2 hg1 hg2 hr hf hb2
 go_wp2
 go_ret2
 exact HP.out
set_option maxHeartbeats 1000000 in
theorem write_ok (h : Mem w p b m N B nx hd cnt) (o n : Nat) (hn : 1 ≤ n) (ho : o + n ≤ 4096 * N) (hh : ∀ f : Nat, o / 4096 ≤ f → f * 4096 < o + n → hd (2147483648 + f * 4096) = true) (g k c : Nat) (R : Nat → Int) (hR : ∀ i, 0 ≤ R i ∧ R i < 256) (hg : ∀ i, i < n → w.cell? ⟨g, k + i, .none⟩ = some (.int .u8 (R i))) :
  Calls Tryz.prog 103 #[.pointer (some ⟨p, 0, .none⟩), .int .u64 (2147483648 + o), .slice (some ⟨g, k, .none⟩) n c] w fun e w' => e = .returned (.bool true) ∧ Mem w' p b m N (over B o ((List.range n).map R)) nx hd cnt ∧ Fra p b m w w' := by
 have c1 := reach_ok h o n hn ho hh
 have HM : Hid (Mem w p b m N B nx hd cnt) := h
 have hgw : g < w.heap.size := lt_of_cell (hg 0 hn)
 have n2 := h.n2
 have key : Hid (∀ w1, Below w.heap.size w w1 → ∃ w2, (∀ ty, (Builtin.copy_ #[24, 24] ty #[.slice (some ⟨b, o, .none⟩) n (4096 * N - o), .slice (some ⟨g, k, .none⟩) n c]).run Tryz.prog w1 = .ok (.int .i64 n) w2) ∧ Mem w2 p b m N (over B o ((List.range n).map R)) nx hd cnt ∧ Fra p b m w w2) := fun w1 hb => by
  have M1 := HM.out.below hb
  refine ⟨w1.setCells b o (((List.range n).map R).map (.int .u8)), fun ty => ?_, M1.setCells o _ (by simpa using ho) (fun v hv => by simp only [List.mem_map] at hv; obtain ⟨i, _, rfl⟩ := hv; exact hR i), (Fra.below hb).setCells o _⟩
  have := run_copy_cells (P := Tryz.prog) w1 24 24 ty 5 b o n (4096 * N - o) ⟨g, k, .none⟩ n c (((List.range n).map R).map (.int .u8)) Tryz.underlying24 info5 (by simp)
   (fun j v hj => by
    rw [addr_add]
    rw [List.getElem?_map, List.getElem?_map] at hj
    by_cases hjn : j < n
    ·rw [List.getElem?_range hjn] at hj
     simp only [Option.map_some, Option.some.injEq] at hj
     subst hj
     exact (hb.cell (p := ⟨g, k + j, .none⟩) hgw).trans (hg j hjn)
    ·rw [List.getElem?_eq_none (by simp; omega)] at hj
     cases hj)
   (fun j hj => by rw [M1.cb _ (by simp at hj; omega)]; rfl) (fun j hj => M1.fb _ (by simp at hj; omega)) (fun v hv => by simp only [List.mem_map] at hv; obtain ⟨i, _, rfl⟩ := hv; rfl)
  rw [this]
  simp [goInt]
 clear h hh hg hR
 go_enter Tryz.func103, Tryz.ntmps103
 go_wp2_with fail
 refine c1.mono ?_
 rintro e w1 ⟨rfl, hb⟩
 obtain ⟨w2, hcp, hM, hF⟩ := key.out w1 hb
 clear c1 hb
 go_wp2
 go_ret
 exact ⟨rfl, hM, hF⟩
end
end Go.Proofs.YtabnipbdbnmmpaaGreatDoor.Rm
namespace Go.Proofs.YtabnipbdbnmmpaaGreatDoor.Rm
open Go.RowKit
section
variable {w : World} {p b m N cnt : Nat} {B : Nat → Int} {nx : Int} {hd : Int → Bool}
theorem reach_zero (h : Mem w p b m N B nx hd cnt) (pa : Int) : Calls Tryz.prog 58 #[.pointer (some ⟨p, 0, .none⟩), .int .u64 pa, .int .i64 0] w fun e w' => e = .returned (.tuple #[.slice .none 0 0, .bool true]) ∧ w' = w := by
 have c := made_some p b _ _ w h.c0
 clear h
 go_enter Tryz.func58, Tryz.ntmps58
 go_wp2_with (go_at_call 33; refine c.mono ?_; rintro e w0 ⟨rfl, rfl⟩)
 go_ret2
 exact ⟨rfl, rfl⟩
set_option maxHeartbeats 2000000 in
theorem reach_hole (h : Mem w p b m N B nx hd cnt) (o n : Nat) (hn : 1 ≤ n) (ho : o + n ≤ 4096 * N) (f0 : Nat) (hf1 : o / 4096 ≤ f0) (hf2 : f0 * 4096 < o + n) (hh : hd (2147483648 + f0 * 4096) = false) :
  Calls Tryz.prog 58 #[.pointer (some ⟨p, 0, .none⟩), .int .u64 (2147483648 + o), .int .i64 n] w fun e w' => e = .returned (.tuple #[.slice .none 0 0, .bool false]) ∧ Below w.heap.size w w' := by
 have c := made_some p b _ _ w h.c0
 have k0 := h.c0
 have n2 := h.n2
 have i1 : ¬ ((n : Int) < 0) := by omega
 have i2 : ((n : Int) == 0) = false := by simp; omega
 have i3 : (n : Int) ≤ 4096 * N - o := by omega
 have i4 : (o : Int) < 4096 * N := by omega
 have HM : Hid (Mem w p b m N B nx hd cnt) := h
 clear h
 go_enter Tryz.func58, Tryz.ntmps58
 go_wp2_with (first | (go_at_call 33; refine c.mono ?_; rintro e w0 ⟨rfl, rfl⟩) | fail)
 go_quiet (fail)
 go_wp2
 simp only [show (2147483648 + (o : Int) - 2147483648) = o by omega]
 go_loopw [11] (fun k wr => ∃ f : Nat, f ≤ f0 ∧ k = .int .u64 (2147483648 + f * 4096) ∧ Below w0.heap.size w0 wr) (fun k _ => (2147483648 + o + n + 4096 - intOf k).toNat)
 case atStart => exact ⟨o / 4096, by omega, congrArg _ (by omega), below_drewN (Below.refl _ _) _⟩
 case round =>
  obtain ⟨f, hff, rfl, hB⟩ := hrel
  have M := HM.out.below hB
  have HB : Hid (Below w0.heap.size w0 wr) := hB
  have hfn : f * 4096 < o + n := Nat.lt_of_le_of_lt (Nat.mul_le_mul_right _ hff) hf2
  have j1 : (2147483648 + (f : Int) * 4096) < 2147483648 + (o + n) := by omega
  have c1 := isHeld_any M (2147483648 + f * 4096) (by omega)
  clear M hB
  cases hq : hd (2147483648 + f * 4096) with
  | true =>
   rw [hq] at c1
   have hne : f ≠ f0 := fun e => by rw [e, hh] at hq; cases hq
   have q : Hid (f + 1 ≤ f0 ∧ Value.int .u64 (2147483648 + (f : Int) * 4096 + 4096) = .int .u64 (2147483648 + ((f + 1 : Nat) : Int) * 4096) ∧ (2147483648 + (o : Int) + n + 4096 - intOf (.int .u64 (2147483648 + (f : Int) * 4096 + 4096))).toNat < (2147483648 + (o : Int) + n + 4096 - intOf (.int .u64 (2147483648 + (f : Int) * 4096))).toNat) := by
    refine ⟨by omega, ?_, ?_⟩
    ·rw [show ((f + 1 : Nat) : Int) = (f : Int) + 1 by omega, show 2147483648 + ((f : Int) + 1) * 4096 = 2147483648 + (f : Int) * 4096 + 4096 by omega]
    ·simp only [intOf]
     omega
   go_wp2_with (first | (go_at_call 111; refine c1.mono ?_; rintro e w1 ⟨rfl, hb1⟩) | fail)
   exact ⟨⟨f + 1, q.out.1, q.out.2.1, HB.out.trans (hb1.mono HB.out.size)⟩, q.out.2.2⟩
  | false =>
   rw [hq] at c1
   go_wp2_with (first | (go_at_call 111; refine c1.mono ?_; rintro e w1 ⟨rfl, hb1⟩) | fail)
   go_ret2
   exact ⟨rfl, HB.out.trans (hb1.mono HB.out.size)⟩
set_option maxHeartbeats 2000000 in
theorem reach_out (h : Mem w p b m N B nx hd cnt) (pa n : Int) (hp : 0 ≤ pa ∧ pa < 18446744073709551616) (hn : 1 ≤ n) (hn2 : n ≤ 9223372036854775807) (ho : ¬ (2147483648 ≤ pa ∧ pa - 2147483648 + n ≤ 4096 * N)) :
  Calls Tryz.prog 58 #[.pointer (some ⟨p, 0, .none⟩), .int .u64 pa, .int .i64 n] w fun e w' => e = .returned (.tuple #[.slice .none 0 0, .bool false]) ∧ Below w.heap.size w w' := by
 have c := made_some p b _ _ w h.c0
 have k0 := h.c0
 have n2 := h.n2
 have i1 : ¬ (n < 0) := by omega
 have i2 : (n == 0) = false := by simp; omega
 clear h
 by_cases h1 : 2147483648 ≤ pa
 ·by_cases h2 : 4096 * (N : Int) ≤ pa - 2147483648
  ·go_enter Tryz.func58, Tryz.ntmps58
   go_wp2_with (first | (go_at_call 33; refine c.mono ?_; rintro e w0 ⟨rfl, rfl⟩) | fail)
   go_quiet (fail)
   go_wp2
   go_ret2
   exact ⟨rfl, below_drewN (Below.refl _ _) _⟩
  ·have h3 : 4096 * (N : Int) - (pa - 2147483648) < n := by omega
   go_enter Tryz.func58, Tryz.ntmps58
   go_wp2_with (first | (go_at_call 33; refine c.mono ?_; rintro e w0 ⟨rfl, rfl⟩) | fail)
   go_quiet (fail)
   go_wp2
   go_ret2
   exact ⟨rfl, below_drewN (Below.refl _ _) _⟩
 ·have hw : IntKind.u64.wrap (pa - 2147483648) = pa - 2147483648 + 18446744073709551616 := by rw [IntKind.wrap_u64]; omega
  have h2 : 4096 * (N : Int) ≤ pa - 2147483648 + 18446744073709551616 := by omega
  generalize pa - 2147483648 + 18446744073709551616 = Z at *
  go_enter Tryz.func58, Tryz.ntmps58
  go_wp2_with (first | (go_at_call 33; refine c.mono ?_; rintro e w0 ⟨rfl, rfl⟩) | fail)
  go_quiet (fail)
  go_wp2
  go_ret2
  exact ⟨rfl, below_drewN (Below.refl _ _) _⟩
theorem access_no (pa n v : Int) (wr : Bool) (c : Calls Tryz.prog 58 #[.pointer (some ⟨p, 0, .none⟩), .int .u64 pa, .int .i64 n] w fun e w' => e = .returned (.tuple #[.slice .none 0 0, .bool false]) ∧ Below w.heap.size w w') :
  Calls Tryz.prog 186 #[.pointer (some ⟨p, 0, .none⟩), .int .u64 pa, .int .i64 n, .bool wr, .int .u64 v] w fun e w' => e = .returned (.tuple #[.int .u64 0, .bool false]) ∧ Below w.heap.size w w' := by
 go_enter Tryz.func186, Tryz.ntmps186
 go_wp2_with (go_at_call 58; refine c.mono ?_; rintro e w1 ⟨rfl, hb⟩)
 go_ret2
 exact ⟨rfl, hb⟩
theorem load_no (pa n : Int) (c : Calls Tryz.prog 186 #[.pointer (some ⟨p, 0, .none⟩), .int .u64 pa, .int .i64 n, .bool false, .int .u64 0] w fun e w' => e = .returned (.tuple #[.int .u64 0, .bool false]) ∧ Below w.heap.size w w') :
  Calls Tryz.prog 152 #[.pointer (some ⟨p, 0, .none⟩), .int .u64 pa, .int .i64 n] w fun e w' => e = .returned (.tuple #[.int .u64 0, .bool false]) ∧ Below w.heap.size w w' := by
 go_enter Tryz.func152, Tryz.ntmps152
 go_wp2_with (go_at_call 186; refine c.mono ?_; rintro e w1 ⟨rfl, hb⟩)
 go_ret2
 exact ⟨rfl, hb⟩
theorem read_zero (h : Mem w p b m N B nx hd cnt) (pa : Int) : Calls Tryz.prog 20 #[.pointer (some ⟨p, 0, .none⟩), .int .u64 pa, .int .i64 0] w fun e w' => e = .returned (.tuple #[.slice .none 0 0, .bool true]) ∧ w' = w := by
 have c := reach_zero h pa
 clear h
 go_enter Tryz.func20, Tryz.ntmps20
 go_wp2_with (go_at_call 58; refine c.mono ?_; rintro e w0 ⟨rfl, rfl⟩)
 go_ret2
 exact ⟨rfl, rfl⟩
end
end Go.Proofs.YtabnipbdbnmmpaaGreatDoor.Rm
