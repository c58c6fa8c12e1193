import Derived.Test.YtmdjhcmphdibnaaGreatNob2
import Derived.LoopN
import Derived.Deep.DeepCutAuto
namespace Go.Proofs.YtmdjhcmphdibnaaGreat
open Go.RowKit
set_option linter.unusedVariables false
set_option linter.unusedSimpArgs false
structure Hid (p : Prop) : Prop where
  out : p
theorem below2 (w : World) (o o1 : Obj) : Below w.heap.size w ((w.alloc o).alloc o1) := (below1 w o).alloc (by simp) o1
theorem hid_step {w a b : World} {n : Nat} (h : Hid (Below n w a)) (hb : Below a.heap.size a b) (hn : n ≤ a.heap.size) : Hid (Below n w b) := ⟨h.out.trans (hb.mono hn)⟩
set_option maxHeartbeats 4000000 in
set_option maxRecDepth 100000 in
theorem nobody_walk (va n perm : Int) (sp : Option Addr) (ln cp : Nat) (w : World) (hv : 0 ≤ va ∧ va < 18446744073709551616) (hn : -9223372036854775808 ≤ n ∧ n < 9223372036854775808) (hl : ln < 9223372036854775808) : Calls Tryz.prog 3 #[.int .u64 va, .int .i64 n, .int .u64 perm, .slice sp ln cp] w fun e w' => e = .returned (.bool true) ∧ Below w.heap.size w w' := by
  go_enter Tryz.func3, Tryz.ntmps3
  go_upto_region 2 with fail
  have hb := below2 w (.cells #[.pointer .none, .int .u64 0, .int .u64 0] 29) (.cells #[.pointer .none, .pointer (some ⟨w.heap.size, 0, .none⟩)] 24)
  have l0 : ((w.alloc (.cells #[.pointer .none, .int .u64 0, .int .u64 0] 29)).alloc (.cells #[.pointer .none, .pointer (some ⟨w.heap.size, 0, .none⟩)] 24)).cell? ⟨w.heap.size + 1, 0, .none⟩ = some (.pointer .none) := by
    rw [World.cell?_alloc_at _ _ _ _ (by simp only [World.size_alloc])]; rfl
  have l1 : ((w.alloc (.cells #[.pointer .none, .int .u64 0, .int .u64 0] 29)).alloc (.cells #[.pointer .none, .pointer (some ⟨w.heap.size, 0, .none⟩)] 24)).cell? ⟨w.heap.size + 1, 1, .none⟩ = some (.pointer (some ⟨w.heap.size, 0, .none⟩)) := by
    rw [World.cell?_alloc_at _ _ _ _ (by simp only [World.size_alloc])]; rfl
  have e0 : ((w.alloc (.cells #[.pointer .none, .int .u64 0, .int .u64 0] 29)).alloc (.cells #[.pointer .none, .pointer (some ⟨w.heap.size, 0, .none⟩)] 24)).cell? ⟨w.heap.size, 0, .none⟩ = some (.pointer .none) := by
    rw [World.cell?_alloc_past _ _ _ (by simp only [World.size_alloc]; omega), World.cell?_alloc_at _ _ _ _ rfl]; rfl
  have HB1 : Hid (Below w.heap.size w _) := ⟨hb⟩
  clear hb
  generalize ((w.alloc (.cells #[.pointer .none, .int .u64 0, .int .u64 0] 29)).alloc (.cells #[.pointer .none, .pointer (some ⟨w.heap.size, 0, .none⟩)] 24)) = W1 at *
  have LQ : Hid (∀ k : Nat, k < 2 → ∃ q, W1.cell? ⟨w.heap.size + 1, k, .none⟩ = some (.pointer q) ∧ Uns W1 (.pointer q)) := by
    constructor
    intro k hk
    have e : k = 0 ∨ k = 1 := by omega
    rcases e with rfl | rfl
    · exact ⟨_, l0, .inl rfl⟩
    · exact ⟨_, l1, .inr ⟨_, rfl, lt_of_cell e0, e0⟩⟩
  clear l0 l1 e0
  generalize w.heap.size + 1 = lb at *
  go_wp2
  go_loopw [10] (fun i W => ∃ k : Nat, k ≤ 2 ∧ i = .int .i64 k ∧ Below W1.heap.size W1 W) (fun i _ => 2 - (intOf i).toNat)
  case atStart => exact ⟨0, by omega, rfl, Below.refl _ _⟩
  case round =>
    obtain ⟨k, hk, rfl, hb⟩ := hrel
    by_cases hlt : k < 2
    · have i1 : (k : Int) < 2 := by omega
      obtain ⟨q, lq, uq⟩ := LQ.out k hlt
      have lw := (hb.cell (lt_of_cell lq)).trans lq
      have u := uq.below hb
      have HB : Hid (Below W1.heap.size W1 wr) := ⟨hb⟩
      clear lq uq hb
      go_upto_region 10 with (first | (go_at_call 4; refine (copy_no u va).mono ?_; rintro _ _ ⟨rfl, rfl⟩) | (go_at_call 5; refine (in_no u va n hv hn).mono ?_; rintro _ V ⟨rfl, hV⟩; have u := u.below hV; have HB := hid_step HB hV HB.out.size; clear hV) | (go_at_call 6; refine (str_no u va n hv).mono ?_; rintro _ V ⟨rfl, hV⟩; have u := u.below hV; have HB := hid_step HB hV HB.out.size; clear hV) | (go_at_call 7; refine (look_no u).mono ?_; rintro _ V ⟨rfl, hV⟩; have u := u.below hV; have HB := hid_step HB hV HB.out.size; clear hV))
      go_upto_region 12 with fail
      go_upto_region 14 with (first | (go_at_call 8; refine (root_no u).mono ?_; rintro _ _ ⟨rfl, rfl⟩) | (go_at_call 9; refine (size_no u).mono ?_; rintro _ _ ⟨rfl, rfl⟩) | (go_at_call 10; refine (pages_no u).mono ?_; rintro _ _ ⟨rfl, rfl⟩) | (go_at_call 11; refine (grow_no u va perm).mono ?_; rintro _ _ ⟨rfl, rfl⟩) | (go_at_call 12; refine (shrink_no u va).mono ?_; rintro _ _ ⟨rfl, rfl⟩) | (go_at_call 13; refine (guard_no u n).mono ?_; rintro _ _ ⟨rfl, rfl⟩) | (go_at_call 14; refine (free_no u).mono ?_; rintro _ _ ⟨rfl, rfl⟩))
      go_wp2_with fail
      go_at_call 15
      refine (canOut_no u va n hv hn).mono ?_
      rintro _ V ⟨rfl, hV⟩
      have u := u.below hV
      have HB := hid_step HB hV HB.out.size
      clear hV
      dsimp only
      go_wp2_with fail
      go_at_call 16
      refine (out_no u va sp ln cp hv hl).mono ?_
      rintro _ V ⟨rfl, hV⟩
      have u := u.below hV
      have HB := hid_step HB hV HB.out.size
      clear hV
      dsimp only
      go_wp2_with fail
      go_at_call 17
      refine (poke_no u va sp ln cp).mono ?_
      rintro _ _ ⟨rfl, rfl⟩
      dsimp only
      go_wp2_with fail
      go_at_call 16
      refine (out_no u va .none 0 0 hv (by omega)).mono ?_
      rintro _ V ⟨rfl, hV⟩
      have u := u.below hV
      have HB := hid_step HB hV HB.out.size
      clear hV
      dsimp only
      go_wp2_with fail
      go_at_call 17
      refine (poke_no u 0 .none 0 0).mono ?_
      rintro _ _ ⟨rfl, rfl⟩
      dsimp only
      go_wp2
      exact ⟨⟨k + 1, by omega, by go_num, HB.out⟩, by simp [intOf]; omega⟩
    · have i1 : ¬ (k : Int) < 2 := by omega
      have HB : Hid (Below W1.heap.size W1 wr) := ⟨hb⟩
      clear hb
      go_upto_region 17 with fail
      have hb := below2 wr (.cells #[.slice .none 0 0, .int .u64 0, .map .none] 52) (.cells #[.pointer .none, .pointer (some ⟨wr.heap.size, 0, .none⟩)] 25)
      have l0 : ((wr.alloc (.cells #[.slice .none 0 0, .int .u64 0, .map .none] 52)).alloc (.cells #[.pointer .none, .pointer (some ⟨wr.heap.size, 0, .none⟩)] 25)).cell? ⟨wr.heap.size + 1, 0, .none⟩ = some (.pointer .none) := by
        rw [World.cell?_alloc_at _ _ _ _ (by simp only [World.size_alloc])]; rfl
      have l1 : ((wr.alloc (.cells #[.slice .none 0 0, .int .u64 0, .map .none] 52)).alloc (.cells #[.pointer .none, .pointer (some ⟨wr.heap.size, 0, .none⟩)] 25)).cell? ⟨wr.heap.size + 1, 1, .none⟩ = some (.pointer (some ⟨wr.heap.size, 0, .none⟩)) := by
        rw [World.cell?_alloc_at _ _ _ _ (by simp only [World.size_alloc])]; rfl
      have e0 : ((wr.alloc (.cells #[.slice .none 0 0, .int .u64 0, .map .none] 52)).alloc (.cells #[.pointer .none, .pointer (some ⟨wr.heap.size, 0, .none⟩)] 25)).cell? ⟨wr.heap.size, 0, .none⟩ = some (.slice .none 0 0) := by
        rw [World.cell?_alloc_past _ _ _ (by simp only [World.size_alloc]; omega), World.cell?_alloc_at _ _ _ _ rfl]; rfl
      have HB2 : Hid (Below W1.heap.size W1 ((wr.alloc (.cells #[.slice .none 0 0, .int .u64 0, .map .none] 52)).alloc (.cells #[.pointer .none, .pointer (some ⟨wr.heap.size, 0, .none⟩)] 25))) := hid_step HB hb HB.out.size
      clear hb
      generalize ((wr.alloc (.cells #[.slice .none 0 0, .int .u64 0, .map .none] 52)).alloc (.cells #[.pointer .none, .pointer (some ⟨wr.heap.size, 0, .none⟩)] 25)) = W2 at *
      have LR : Hid (∀ k : Nat, k < 2 → ∃ q, W2.cell? ⟨wr.heap.size + 1, k, .none⟩ = some (.pointer q) ∧ Unr W2 (.pointer q)) := by
        constructor
        intro k hk
        have e : k = 0 ∨ k = 1 := by omega
        rcases e with rfl | rfl
        · exact ⟨_, l0, .inl rfl⟩
        · exact ⟨_, l1, .inr ⟨_, rfl, lt_of_cell e0, e0⟩⟩
      clear l0 l1 e0
      generalize wr.heap.size + 1 = lc at *
      go_wp2
      go_loopw [21] (fun i W => ∃ k : Nat, k ≤ 2 ∧ i = .int .i64 k ∧ Below W2.heap.size W2 W) (fun i _ => 2 - (intOf i).toNat)
      case atStart => exact ⟨0, by omega, rfl, Below.refl _ _⟩
      case round =>
        obtain ⟨j, hj, rfl, hb⟩ := hrel
        by_cases hlt2 : j < 2
        · have i2 : (j : Int) < 2 := by omega
          obtain ⟨q, lq, uq⟩ := LR.out j hlt2
          rename World => wj
          have lw := (hb.cell (lt_of_cell lq)).trans lq
          have u := uq.below hb
          have HBj : Hid (Below W2.heap.size W2 wj) := ⟨hb⟩
          clear lq uq hb
          go_wp2_with (go_at_call 18; refine (new_no u va perm).mono ?_; rintro _ _ ⟨rfl, rfl⟩)
          exact ⟨⟨j + 1, by omega, by go_num, HBj.out⟩, by simp [intOf]; omega⟩
        · have i2 : ¬ (j : Int) < 2 := by omega
          have HBj : Hid (Below W2.heap.size W2 _) := ⟨hb⟩
          clear hb
          go_wp2
          go_ret
          exact ⟨rfl, HB1.out.trans ((HB2.out.trans (HBj.out.mono HB2.out.size)).mono HB1.out.size)⟩
end Go.Proofs.YtmdjhcmphdibnaaGreat
