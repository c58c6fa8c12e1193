import Derived.Test.YtblmkkhiojbcjaaGreatFill
import Derived.Laws.MakeOwn
namespace Go.Proofs.YtblmkkhiojbcjaaGreat
open Go.RowKit
set_option linter.unusedVariables false
set_option linter.unusedSimpArgs false
def junk : List Int := List.replicate 4088 5
theorem junk_len : junk.length = 4088 := List.length_replicate
theorem junk_map : junk.map (Value.int .u8) = List.replicate 4088 (.int .u8 5) := List.map_replicate
theorem junk_bd : ∀ x ∈ junk, 0 ≤ x ∧ x < 256 := fun x hx => by rw [List.eq_of_mem_replicate hx]; omega
/-- The bytes behind a frame's threading. -/
def thr (B : Nat → Int) (i : Nat) (v : Int) : Nat → Int := over (over B (i * 4096) (le v 8)) (i * 4096 + 8) junk
section
variable {w : World} {p b m N cnt : Nat} {B : Nat → Int} {nx : Int} {hd : Int → Bool}
set_option maxHeartbeats 1000000 in
theorem thread_any (h : Mem w p b m N B nx hd cnt) (i : Nat) (hi : i < N) : Calls Tryz.prog 71 #[.pointer (some ⟨p, 0, .none⟩), .int .u64 (2147483648 + i * 4096)] w fun e w' => (∃ v, e = .returned v) ∧ Mem w' p b m N (thr B i nx) (2147483648 + i * 4096) hd cnt ∧ Fra p b m w w' := by
  have c := frame_any h i hi
  have n2 := h.n2
  have c1 := number64_write b (i * 4096) 4096 (4096 * N - i * 4096) nx w (by omega) (fun k hk => by rw [h.cb _ (by omega)]; rfl) (fun k hk => h.fb _ (by omega)) h.nb
  have h1 := h.setCells (i * 4096) (le nx 8) (by rw [le_len]; omega) (le_bd nx 8)
  have F1 := (Fra.refl p b m w).setCells (i * 4096) ((le nx 8).map (.int .u8))
  generalize hw1 : w.setCells b (i * 4096) ((le nx 8).map (.int .u8)) = w1 at *
  clear hw1
  have c2 := fill_any b (i * 4096 + 8) 4088 (4096 * N - i * 4096 - 8) 5 w1 (by omega) (by omega) (by omega) (by omega) (fun k hk => by rw [h1.cb _ (by omega)]; rfl) (fun k hk => h1.fb _ (by omega))
  have k1 := h.c1
  go_enter Tryz.func71, Tryz.ntmps71
  go_wp2_with (first | (go_at_call 74; refine c.mono ?_; rintro e w0 ⟨rfl, rfl⟩) | (go_at_call 105; refine c1.mono ?_; rintro e w2 ⟨rfl, rfl⟩) | fail)
  refine c2.mono ?_
  rintro e w3 ⟨⟨v, rfl⟩, k, hw3⟩
  have h3 : Mem w3 p b m N (thr B i nx) nx hd cnt := by
    rw [hw3]
    have := h1.setCells (i * 4096 + 8) junk (by rw [junk_len]; omega) junk_bd
    rw [junk_map] at this
    exact this.drewN k
  have F3 : Fra p b m w0 w3 := by
    rw [hw3]
    exact (F1.setCells _ _).drewN k
  clear c c1 c2 hw3 h1 F1
  have g1 := h3.c1
  have g2 := h3.f1
  have HM : Hid (Mem (w3.setCell ⟨p, 1, .none⟩ (.int .u64 (2147483648 + i * 4096))) p b m N (thr B i nx) (2147483648 + i * 4096) hd cnt) := h3.setNext _ (by omega)
  have HF : Hid (Fra p b m w0 (w3.setCell ⟨p, 1, .none⟩ (.int .u64 (2147483648 + i * 4096)))) := F3.setCell _ _ (.inl rfl)
  go_wp2
  go_end0
  exact ⟨⟨_, rfl⟩, HM.out, HF.out⟩
end
theorem info5' : ∃ i, Tryz.prog.info? 5 = some i ∧ i.zero = some (.int .u8 0) ∧ i.size = 1 ∧ i.bytes = 1 := by
  have h : (Tryz.prog.info? 5).map (fun i => (i.zero, i.size, i.bytes)) = some (some (.int .u8 0), 1, 1) := by kernel_rfl
  cases hq : Tryz.prog.info? 5 with
  | none => rw [hq] at h; cases h
  | some i =>
    rw [hq] at h
    simp only [Option.map_some, Option.some.injEq, Prod.mk.injEq] at h
    exact ⟨i, rfl, h⟩
def Zs (n : Nat) : Array Value := madeCells #[.int .u8 0] n
theorem Zs_at (n i : Nat) (h : i < n) : (Zs n)[i]? = some (.int .u8 0) := by
  have : i < (Zs n).size := by unfold Zs; rw [size_madeCells]; exact h
  rw [Array.getElem?_eq_getElem this]
  simp [Zs, madeCells, Nat.mod_one]
theorem make_bytes (n : Nat) (h : n ≤ 16777216) (w : World) : (Instr.makeSlice 24 (.int .i64 n) (.int .i64 n)).run Tryz.prog w = .ok (.slice (some ⟨w.heap.size, 0, .none⟩) n n) (w.alloc (.cells (Zs n) 5)) := by
  obtain ⟨i, h1, h2, h3, h4⟩ := info5'
  have := run_make w 24 5 i (.int .u8 0) Tryz.underlying24 h1 h2 .i64 .i64 n n (by omega) (by omega) (by rw [h4]; omega) (by omega)
  rw [h3] at this
  simpa [Zs, Value.cells] using this
section
set_option maxHeartbeats 1000000 in
theorem blank_any (n : Nat) (h1 : 1 ≤ n) (h2 : n ≤ 4096) (w : World) : Calls Tryz.prog 81 #[.int .i64 n] w fun e w' => ∃ p b m, w.heap.size ≤ p ∧ w.heap.size ≤ b ∧ w.heap.size ≤ m ∧ e = .returned (.pointer (some ⟨p, 0, .none⟩)) ∧ Mem w' p b m n (fun _ => 0) 0 (fun _ => false) 0 ∧ Below w.heap.size w w' := by
  have hmm := @run_makeMap Tryz.prog
  have hmk := make_bytes (4096 * n) (by omega) w
  rw [show ((4096 * n : Nat) : Int) = (n : Int) * 4096 by omega] at hmk
  have HZ : Hid (∀ i, i < 4096 * n → (Zs (4096 * n))[i]? = some (.int .u8 0)) := fun i hi => Zs_at _ i hi
  generalize Zs (4096 * n) = Z at *
  go_enter Tryz.func81, Tryz.ntmps81
  go_wp2
  go_ret
  refine ⟨w.heap.size + 1 + 1, w.heap.size, w.heap.size + 1, by omega, by omega, by omega, rfl, ?_, ?_⟩
  · have hb : ∀ i, (((w.alloc (.cells Z 5)).alloc (.map #[] 0)).alloc (.cells #[.slice (some ⟨w.heap.size, 0, .none⟩) (4096 * n) (4096 * n), .int .u64 0, .map (some (w.heap.size + 1))] 102)).cell? ⟨w.heap.size, i, .none⟩ = Z[i]? := fun i => by
      rw [World.cell?_alloc_past _ _ _ (by simp only [World.size_alloc]; omega), World.cell?_alloc_past _ _ _ (by simp), World.cell?_alloc_at _ _ _ _ rfl]
    refine ⟨?_, ?_, ?_, ?_, fun i hi => by rw [hb]; exact HZ.out i hi, ?_, ?_, h1, h2, fun _ => by omega, by omega⟩
    · rw [World.cell?_alloc_at _ _ _ _ (by simp only [World.size_alloc])]; rfl
    · rw [World.cell?_alloc_at _ _ _ _ (by simp only [World.size_alloc])]; rfl
    · rw [World.cell?_alloc_at _ _ _ _ (by simp only [World.size_alloc])]; rfl
    · have := World.frozen?_alloc_new ((w.alloc (.cells Z 5)).alloc (.map #[] 0)) #[.slice (some ⟨w.heap.size, 0, .none⟩) (4096 * n) (4096 * n), .int .u64 0, .map (some (w.heap.size + 1))] 102 1
      rwa [World.size_alloc, World.size_alloc] at this
    · intro i hi
      rw [World.frozen?_alloc_old _ _ _ (by simp only [World.size_alloc]; omega), World.frozen?_alloc_old _ _ _ (by simp)]
      exact World.frozen?_alloc_new _ _ _ _
    · refine ⟨.map [], ?_, fun _ _ _ => rfl, rfl⟩
      have := (World.ownsMap_made (H := Unit) (w.alloc (.cells Z 5)) Tryz.prog 23 unitElem).alloc (.cells #[.slice (some ⟨w.heap.size, 0, .none⟩) (4096 * n) (4096 * n), .int .u64 0, .map (some (w.heap.size + 1))] 102)
      rw [World.size_alloc] at this
      exact this
  · exact (((Below.refl _ _).alloc (Nat.le_refl _) _).alloc (by simp) _).alloc (by simp only [World.size_alloc]; omega) _
end
end Go.Proofs.YtblmkkhiojbcjaaGreat
