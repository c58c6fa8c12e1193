import Derived.Test.YtblmkkhiojbcjaaGreatAcc
namespace Go.Proofs.YtblmkkhiojbcjaaGreat
open Go.RowKit
set_option linter.unusedVariables false
set_option linter.unusedSimpArgs false
def ReadP (w : World) (n : Nat) (R : Nat → Int) (e : Ending) (w' : World) : Prop := ∃ g, w.heap.size ≤ g ∧ g < w'.heap.size ∧ e = .returned (.tuple #[.slice (some ⟨g, 0, .none⟩) n n, .bool true]) ∧ RowB w' g n R ∧ (∀ i, i < n → w'.frozen? ⟨g, i, .none⟩ = false) ∧ Below w.heap.size w w'
section
variable {w : World} {p b m N cnt : Nat} {B : Nat → Int} {nx : Int} {hd : Int → Bool}
set_option maxHeartbeats 1000000 in
theorem read_ok (h : Mem w p b m N B nx hd cnt) (o n : Nat) (hn : 1 ≤ n) (ho : o + n ≤ 4096 * N) (hh : ∀ f : Nat, o / 4096 ≤ f → f * 4096 < o + n → hd (2147483648 + f * 4096) = true) :
    Calls Tryz.prog 55 #[.pointer (some ⟨p, 0, .none⟩), .int .u64 (2147483648 + o), .int .i64 n] w fun e w' => ReadP w n (fun i => B (o + i)) e w' := by
  have c := reach_ok h o n hn ho hh
  have HM : Hid (Mem w p b m N B nx hd cnt) := h
  have n2 := h.n2
  clear h hh
  have i1 : ((n : Int) == 0) = false := by simp; omega
  go_enter Tryz.func55, Tryz.ntmps55
  go_wp2_with fail
  refine c.mono ?_
  rintro e w1 ⟨rfl, hb⟩
  have M1 := HM.out.below hb
  have c2 := copied_any b o n (4096 * N - o) (fun i => B (o + i)) w1 hn (by omega) (fun i hi => M1.cb _ (by omega))
  clear M1 c
  have HB : Hid (Below w.heap.size w w1) := hb
  clear hb
  go_wp2_with fail
  refine c2.mono ?_
  rintro e w2 ⟨g, hg1, hg2, rfl, hr, hf, hb2⟩
  have HP : Hid (ReadP w n (fun i => B (o + i)) (.returned (.tuple #[.slice (some ⟨g, 0, .none⟩) n n, .bool true])) w2) := ⟨g, Nat.le_trans HB.out.size hg1, hg2, rfl, hr, hf, HB.out.trans (hb2.mono HB.out.size)⟩
  clear c2 hg1 hg2 hr hf hb2
  go_wp2
  go_ret2
  exact HP.out
set_option maxHeartbeats 1000000 in
theorem write_ok (h : Mem w p b m N B nx hd cnt) (o n : Nat) (hn : 1 ≤ n) (ho : o + n ≤ 4096 * N) (hh : ∀ f : Nat, o / 4096 ≤ f → f * 4096 < o + n → hd (2147483648 + f * 4096) = true) (g k c : Nat) (R : Nat → Int) (hR : ∀ i, 0 ≤ R i ∧ R i < 256) (hg : ∀ i, i < n → w.cell? ⟨g, k + i, .none⟩ = some (.int .u8 (R i))) :
    Calls Tryz.prog 85 #[.pointer (some ⟨p, 0, .none⟩), .int .u64 (2147483648 + o), .slice (some ⟨g, k, .none⟩) n c] w fun e w' => e = .returned (.bool true) ∧ Mem w' p b m N (over B o ((List.range n).map R)) nx hd cnt ∧ Fra p b m w w' := by
  have c1 := reach_ok h o n hn ho hh
  have HM : Hid (Mem w p b m N B nx hd cnt) := h
  have hgw : g < w.heap.size := lt_of_cell (hg 0 hn)
  have n2 := h.n2
  have key : Hid (∀ w1, Below w.heap.size w w1 → ∃ w2, (∀ ty, (Builtin.copy_ #[24, 24] ty #[.slice (some ⟨b, o, .none⟩) n (4096 * N - o), .slice (some ⟨g, k, .none⟩) n c]).run Tryz.prog w1 = .ok (.int .i64 n) w2) ∧ Mem w2 p b m N (over B o ((List.range n).map R)) nx hd cnt ∧ Fra p b m w w2) := fun w1 hb => by
    have M1 := HM.out.below hb
    refine ⟨w1.setCells b o (((List.range n).map R).map (.int .u8)), fun ty => ?_, M1.setCells o _ (by simpa using ho) (fun v hv => by simp only [List.mem_map] at hv; obtain ⟨i, _, rfl⟩ := hv; exact hR i), (Fra.below hb).setCells o _⟩
    have := run_copy_cells (P := Tryz.prog) w1 24 24 ty 5 b o n (4096 * N - o) ⟨g, k, .none⟩ n c (((List.range n).map R).map (.int .u8)) Tryz.underlying24 info5 (by simp)
      (fun j v hj => by
        rw [addr_add]
        rw [List.getElem?_map, List.getElem?_map] at hj
        by_cases hjn : j < n
        · rw [List.getElem?_range hjn] at hj
          simp only [Option.map_some, Option.some.injEq] at hj
          subst hj
          exact (hb.cell (p := ⟨g, k + j, .none⟩) hgw).trans (hg j hjn)
        · rw [List.getElem?_eq_none (by simp; omega)] at hj
          cases hj)
      (fun j hj => by rw [M1.cb _ (by simp at hj; omega)]; rfl) (fun j hj => M1.fb _ (by simp at hj; omega)) (fun v hv => by simp only [List.mem_map] at hv; obtain ⟨i, _, rfl⟩ := hv; rfl)
    rw [this]
    simp [goInt]
  clear h hh hg hR
  go_enter Tryz.func85, Tryz.ntmps85
  go_wp2_with fail
  refine c1.mono ?_
  rintro e w1 ⟨rfl, hb⟩
  obtain ⟨w2, hcp, hM, hF⟩ := key.out w1 hb
  clear c1 hb
  go_wp2
  go_ret
  exact ⟨rfl, hM, hF⟩
end
end Go.Proofs.YtblmkkhiojbcjaaGreat
