import Derived.Test.YtnghcadhilfgnaaEach
import Derived.Laws.AppendOwn
import Derived.Laws.OwnMore
import Derived.RangeFuncRecord
namespace Go.Proofs.Ytnghcadhilfgnaa
open Go.RowKit
set_option linter.unusedVariables false
set_option linter.unusedSimpArgs false
/-- A block of bytes that is a row of its own. -/
def OwnB (W : World) (g n : Nat) : Prop := ∃ xs, W.ownsRow 0 5 1 (.slice (some ⟨g, 0, .none⟩) n n) n xs
theorem OwnB.new (w : World) (n : Nat) (hn : n ≤ 16777216) : OwnB (w.alloc (.cells (Zs n) 5)) w.heap.size n := by
  have hz : (Zs n).size = n := size_madeCells _ _
  refine ⟨(Zs n).toList, ?_, .inr ⟨w.heap.size, n, Zs n, rfl, Nat.zero_le _, ?_, Nat.le_refl _, ?_, ?_, ?_⟩⟩
  · rw [Array.length_toList, hz, Nat.mul_one]
  · exact World.alloc_heap_new w _
  · unfold maxLen; omega
  · rw [hz, Nat.mul_one]
  · exact List.take_of_length_le (by rw [Array.length_toList, hz, Nat.mul_one]; exact Nat.le_refl _)
theorem OwnB.setCells {g n : Nat} : ∀ (us : List Value) (o : Nat) (W : World), OwnB W g n → OwnB (W.setCells g o us) g n
  | [], _, _, h => h
  | u :: us, o, W, h => OwnB.setCells us (o + 1) _ (by
    obtain ⟨xs, hx⟩ := h
    exact ⟨_, (hx.stored o u).1⟩)
theorem OwnB.block {W W' : World} {g n : Nat} (h : OwnB W g n) (e : W'.heap[g]? = W.heap[g]?) : OwnB W' g n := by
  obtain ⟨xs, h1, h2⟩ := h
  rcases h2 with h0 | ⟨g', cap, cur, hv, hX, hh, r⟩
  · exact ⟨xs, h1, .inl h0⟩
  · obtain rfl : g = g' := by
      injection hv with hv _ _
      injection hv with hv
      injection hv with hv
    exact ⟨xs, h1, .inr ⟨g, cap, cur, hv, hX, e.trans hh, r⟩⟩
/-- A copy of bytes, a row of its own. -/
def CopyO (w : World) (n : Nat) (R : Nat → Int) (e : Ending) (w' : World) : Prop := ∃ g, w.heap.size ≤ g ∧ g < w'.heap.size ∧ e = .returned (.slice (some ⟨g, 0, .none⟩) n n) ∧ RowB w' g n R ∧ (∀ i, i < n → w'.frozen? ⟨g, i, .none⟩ = false) ∧ Below w.heap.size w w' ∧ OwnB w' g n
def ReadO (w : World) (n : Nat) (R : Nat → Int) (e : Ending) (w' : World) : Prop := ∃ g, w.heap.size ≤ g ∧ g < w'.heap.size ∧ e = .returned (.tuple #[.slice (some ⟨g, 0, .none⟩) n n, .bool true]) ∧ RowB w' g n R ∧ (∀ i, i < n → w'.frozen? ⟨g, i, .none⟩ = false) ∧ Below w.heap.size w w' ∧ OwnB w' g n
section
variable {w : World} {p b m N cnt : Nat} {B : Nat → Int} {nx : Int} {hd : Int → Bool}
theorem copied_own (b o n cap : Nat) (R : Nat → Int) (w : World) (hn : 1 ≤ n) (hn2 : n ≤ 16777216) (hc : ∀ i, i < n → w.cell? ⟨b, o + i, .none⟩ = some (.int .u8 (R i))) :
    Calls Try.prog 35 #[.slice (some ⟨b, o, .none⟩) n cap] w fun e w' => CopyO w n R e w' := by
  have hmk := make_bytes n hn2 w
  have hb : b < w.heap.size := lt_of_cell (hc 0 hn)
  have HZ : ∀ i, i < n → (w.alloc (.cells (Zs n) 5)).cell? ⟨w.heap.size, i, .none⟩ = some (.int .u8 0) := fun i hi => by
    rw [World.cell?_alloc_at _ _ _ _ rfl]
    exact Zs_at n i hi
  have HZf : ∀ i, i < n → (w.alloc (.cells (Zs n) 5)).frozen? ⟨w.heap.size, i, .none⟩ = false := fun i hi => World.frozen?_alloc_new _ _ _ _
  have hg : w.heap.size < (w.alloc (.cells (Zs n) 5)).heap.size := by simp
  have hB0 : Below w.heap.size w (w.alloc (.cells (Zs n) 5)) := (Below.refl _ _).alloc (Nat.le_refl _) _
  have hcp : ∀ ty, (Builtin.copy_ #[27, 27] ty #[.slice (some ⟨w.heap.size, 0, .none⟩) n n, .slice (some ⟨b, o, .none⟩) n cap]).run Try.prog (w.alloc (.cells (Zs n) 5)) = .ok (.int .i64 n) ((w.alloc (.cells (Zs n) 5)).setCells w.heap.size 0 ((List.range n).map fun i => .int .u8 (R i))) := fun ty => by
    have := run_copy_cells (P := Try.prog) (w.alloc (.cells (Zs n) 5)) 27 27 ty 5 w.heap.size 0 n n ⟨b, o, .none⟩ n cap ((List.range n).map fun i => .int .u8 (R i)) Try.underlying27 info5 (by simp)
      (fun j v hj => by
        rw [addr_add]
        rw [List.getElem?_map] at hj
        by_cases hjn : j < n
        · rw [List.getElem?_range hjn] at hj
          simp only [Option.map_some, Option.some.injEq] at hj
          subst hj
          rw [World.cell?_alloc_past _ _ _ (show b < w.heap.size from hb)]
          exact hc j hjn
        · rw [List.getElem?_eq_none (by simp; omega)] at hj
          cases hj)
      (fun j hj => by rw [Nat.zero_add, HZ j (by simpa using hj)]; rfl) (fun j hj => by rw [Nat.zero_add]; exact HZf j (by simpa using hj)) (fun v hv => by simp only [List.mem_map] at hv; obtain ⟨i, _, rfl⟩ := hv; rfl)
    rw [this]
    simp [goInt]
  have HR : Hid (RowB ((w.alloc (.cells (Zs n) 5)).setCells w.heap.size 0 ((List.range n).map fun i => .int .u8 (R i))) w.heap.size n R) := fun i hi => by
    have := World.cell?_setCells_in w.heap.size ((List.range n).map fun i => Value.int .u8 (R i)) 0 (w.alloc (.cells (Zs n) 5)) (fun j hj => by rw [Nat.zero_add, HZ j (by simpa using hj)]; rfl) i (by simpa using hi)
    rw [Nat.zero_add] at this
    rw [this]
    simp
  have HRf : Hid (∀ i, i < n → ((w.alloc (.cells (Zs n) 5)).setCells w.heap.size 0 ((List.range n).map fun i => .int .u8 (R i))).frozen? ⟨w.heap.size, i, .none⟩ = false) := fun i hi => by rw [World.frozen?_setCells]; exact HZf i hi
  have HBl : Hid (Below w.heap.size w ((w.alloc (.cells (Zs n) 5)).setCells w.heap.size 0 ((List.range n).map fun i => .int .u8 (R i)))) := by
    have key : ∀ (us : List Value) (o : Nat) (w1 : World), Below w.heap.size w w1 → Below w.heap.size w (w1.setCells w.heap.size o us) := by
      intro us
      induction us with
      | nil => intro o w1 h; exact h
      | cons u us ih => intro o w1 h; exact ih (o + 1) _ (h.setCell (p := ⟨w.heap.size, o, .none⟩) (Nat.le_refl _) _)
    exact key _ 0 _ hB0
  have HO : Hid (OwnB ((w.alloc (.cells (Zs n) 5)).setCells w.heap.size 0 ((List.range n).map fun i => .int .u8 (R i))) w.heap.size n) := OwnB.setCells _ 0 _ (OwnB.new w n hn2)
  have HS : Hid (w.heap.size < ((w.alloc (.cells (Zs n) 5)).setCells w.heap.size 0 ((List.range n).map fun i => .int .u8 (R i))).heap.size) := lt_of_cell (HR.out 0 hn)
  generalize (w.alloc (.cells (Zs n) 5)).setCells w.heap.size 0 ((List.range n).map fun i => .int .u8 (R i)) = w2 at *
  clear hc HZ HZf hB0 hg
  generalize w.alloc (.cells (Zs n) 5) = w1 at *
  go_enter Try.func35, Try.ntmps35
  go_wp2
  go_ret
  exact ⟨w.heap.size, Nat.le_refl _, HS.out, rfl, HR.out, HRf.out, HBl.out, HO.out⟩
set_option maxHeartbeats 1000000 in
theorem read_own (h : Mem w p b m N B nx hd cnt) (o n : Nat) (hn : 1 ≤ n) (ho : o + n ≤ 4096 * N) (hh : ∀ f : Nat, o / 4096 ≤ f → f * 4096 < o + n → hd (2147483648 + f * 4096) = true) :
    Calls Try.prog 51 #[.pointer (some ⟨p, 0, .none⟩), .int .u64 (2147483648 + o), .int .i64 n] w fun e w' => ReadO w n (fun i => B (o + i)) e w' := by
  have c := reach_ok h o n hn ho hh
  have HM : Hid (Mem w p b m N B nx hd cnt) := h
  have n2 := h.n2
  clear h hh
  have i1 : ((n : Int) == 0) = false := by simp; omega
  go_enter Try.func51, Try.ntmps51
  go_wp2_with fail
  refine c.mono ?_
  rintro e w1 ⟨rfl, hb⟩
  have M1 := HM.out.below hb
  have c2 := copied_own b o n (4096 * N - o) (fun i => B (o + i)) w1 hn (by omega) (fun i hi => M1.cb _ (by omega))
  clear M1 c
  have HB : Hid (Below w.heap.size w w1) := hb
  clear hb
  go_wp2_with fail
  refine c2.mono ?_
  rintro e w2 ⟨g, hg1, hg2, rfl, hr, hf, hb2, ho2⟩
  have HP : Hid (ReadO w n (fun i => B (o + i)) (.returned (.tuple #[.slice (some ⟨g, 0, .none⟩) n n, .bool true])) w2) := ⟨g, Nat.le_trans HB.out.size hg1, hg2, rfl, hr, hf, HB.out.trans (hb2.mono HB.out.size), ho2⟩
  clear c2 hg1 hg2 hr hf hb2 ho2
  go_wp2
  go_ret2
  exact HP.out
set_option maxHeartbeats 1000000 in
theorem raw_own (h : Mem w p b m N B nx hd cnt) (i : Nat) (hi : i < N) :
    Calls Try.prog 53 #[.pointer (some ⟨p, 0, .none⟩), .int .u64 (2147483648 + i * 4096)] w fun e w' => ReadO w 4096 (fun k => B (i * 4096 + k)) e w' := by
  have n2 := h.n2
  have c1 := frames_any h
  have c2 := isFrame_any (2147483648 + i * 4096) N (by omega) (by omega) (by omega) w
  rw [isFr_addr i N hi] at c2
  have c3 := frame_any h i hi
  have c4 := copied_own b (i * 4096) 4096 (4096 * N - i * 4096) (fun k => B (i * 4096 + k)) w (by omega) (by omega) (fun k hk => h.cb _ (by omega))
  clear h
  go_enter Try.func53, Try.ntmps53
  go_wp2_with (first | (go_at_call 24; refine c1.mono ?_; rintro e w0 ⟨rfl, rfl⟩) | (go_at_call 46; refine c2.mono ?_; rintro e w0 ⟨rfl, rfl⟩) | (go_at_call 36; refine c3.mono ?_; rintro e w0 ⟨rfl, rfl⟩) | fail)
  refine c4.mono ?_
  rintro e w2 ⟨g, hg1, hg2, rfl, hr, hf, hb2, ho2⟩
  have HP : Hid (ReadO w0 4096 (fun k => B (i * 4096 + k)) (.returned (.tuple #[.slice (some ⟨g, 0, .none⟩) 4096 4096, .bool true])) w2) := ⟨g, hg1, hg2, rfl, hr, hf, hb2, ho2⟩
  clear c1 c2 c3 c4 hg1 hg2 hr hf hb2 ho2
  go_wp2
  go_ret2
  exact HP.out
end
end Go.Proofs.Ytnghcadhilfgnaa
