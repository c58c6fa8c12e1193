import Derived.Test.YtabhojfdkmeaoaaPi
namespace Go.Proofs.Ytabhojfdkmeaoaa
open Go.RowKit
set_option linter.unusedVariables false
set_option linter.unusedSimpArgs false
theorem alen : Try.prog.arrayLen 24 = 512 := by kernel_rfl
theorem elem24 (W : World) : (sizeOf (Try.prog.elem 24)).run Try.prog W = .ok 1 W := by
  have e : Try.prog.elem 24 = 5 := by kernel_rfl
  obtain ⟨i, z, hi, _, hs, _⟩ := byte_info
  rw [e]
  simp [sizeOf, typeInfo, hi, hs]
theorem cut_ring (b t : Nat) (x : Int) (hx : x = t) (ht : t < 512) (W : World) : (Instr.sliceAt 24 (.pointer (some ⟨b, 0, .none⟩)) (some (.int .u32 x)) none none).run Try.prog W = .ok (.slice (some ⟨b, t, .none⟩) (512 - t) (512 - t)) W := by
  rw [run_sliceAt_array_l W 24 ⟨b, 0, none⟩ (by kernel_rfl) .u32 x (by omega) (by rw [alen]; omega), alen, hx, Int.toNat_natCast, elem24]
  have : ¬ 512 = t := by omega
  simp [Result.andThen, slicedAt, le_addr_add, this]
theorem all_ring (b : Nat) (W : World) : (Instr.sliceAt 24 (.pointer (some ⟨b, 0, .none⟩)) none none none).run Try.prog W = .ok (.slice (some ⟨b, 0, .none⟩) 512 512) W := by
  rw [run_sliceAt_array_all W 24 ⟨b, 0, none⟩ (by kernel_rfl), alen, elem24]
  simp [Result.andThen, slicedAt, le_addr_add]
/-- Where a cut slice begins. -/
def cutp (p : Option Addr) (c m : Nat) : Option Addr := if c = m then p else p.map (·.add m)
theorem elem22 (W : World) : (sizeOf (Try.prog.elem 22)).run Try.prog W = .ok 1 W := by
  have e : Try.prog.elem 22 = 5 := by kernel_rfl
  obtain ⟨i, z, hi, _, hs, _⟩ := byte_info
  rw [e]
  simp [sizeOf, typeInfo, hi, hs]
theorem cut_from (p : Option Addr) (n c m : Nat) (hm : m ≤ n) (W : World) : (Instr.slice 22 (.slice p n c) (some (.int .i64 m)) none none).run Try.prog W = .ok (.slice (cutp p c m) (n - m) (c - m)) W := by
  rw [run_slice_l W 22 p n c (by kernel_rfl) .i64 m (by omega) (by omega), Int.toNat_natCast, elem22]
  simp [Result.andThen, sliced, cutp]
theorem cut_to (p : Option Addr) (n c m : Nat) (hm : m ≤ c) (W : World) : (Instr.slice 22 (.slice p n c) none (some (.int .i64 m)) none).run Try.prog W = .ok (.slice (cutp p c 0) m c) W := by
  rw [run_slice_h W 22 p n c (by kernel_rfl) .i64 m (by omega) (by omega), Int.toNat_natCast, elem22]
  simp [Result.andThen, sliced, cutp]
theorem cutat (p : Option Addr) (n c : Nat) (lo hi : Option Value) (W : World) : (Instr.sliceAt 22 (.slice p n c) lo hi none).run Try.prog W = (Instr.slice 22 (.slice p n c) lo hi none).run Try.prog W := run_sliceAt_slice W 22 _ _ _ _ (by kernel_rfl)
theorem byt_cut {w : World} {p : Option Addr} {n c : Nat} {ys : List Int} (h : Byt w p n c ys) (l k : Nat) (hlk : l ≤ k) (hk : k ≤ n) : Byt w (cutp p c l) (k - l) (c - l) ((ys.take k).drop l) := by
  obtain ⟨h1, h2, h3, h4⟩ := h
  refine ⟨by rw [List.length_drop, List.length_take]; omega, by omega, by omega, ?_⟩
  by_cases h0 : k - l = 0
  · exact .inl h0
  · rcases h4 with h4 | ⟨g, o, rfl, h5, h6⟩
    · omega
    · refine .inr ⟨g, o + l, ?_, h5, fun i x hx => ?_⟩
      · rw [cutp, if_neg (by omega)]
        simp only [Option.map_some, le_addr_add]
      · rw [List.getElem?_drop, List.getElem?_take] at hx
        split at hx
        · have := h6 _ x hx
          rwa [← Nat.add_assoc] at this
        · cases hx
/-- A slice is not of this block. -/
def NB (p : Option Addr) (b : Nat) : Prop := ∀ a, p = some a → a.block ≠ b
theorem add_block (a : Addr) (m : Nat) : (a.add m).block = a.block := by unfold Addr.add; split <;> rfl
theorem cutp_blk {p : Option Addr} {c m b : Nat} (hp : NB p b) : NB (cutp p c m) b := by
  intro a h
  unfold cutp at h
  split at h
  · exact hp a h
  · rw [Option.map_eq_some_iff] at h
    obtain ⟨a', h1, rfl⟩ := h
    rw [add_block]
    exact hp _ h1
theorem NB.at {p : Option Addr} {b : Nat} (h : NB p b) : ∀ g o, p = some ⟨g, o, .none⟩ → g ≠ b := fun g o e => h _ e
theorem NB.of {w : World} {p : Option Addr} {n c : Nat} {xs : List Int} {b : Nat} (hb : w.heap.size ≤ b) (h : Byt w p n c xs) (hn : 0 < n) : NB p b := by
  intro a ha
  rcases h.2.2.2 with h0 | ⟨g, o, rfl, h1, _⟩
  · omega
  · injection ha with ha
    subst ha
    show g ≠ b
    omega
set_option maxHeartbeats 1000000 in
theorem lay_any {w : World} {b : Nat} {B : Nat → Int} {r s : Int} {rd wt : Bool} (h : Rng w b B r s rd wt) {p : Option Addr} {n c : Nat} {ys : List Int} (hB : Byt w p n c ys) (hp : 0 < n → NB p b) (hn : n ≤ 512) (t : Nat) (ht : s % 512 = t) (ht2 : t < 512) :
    Calls Try.prog 27 #[.pointer (some ⟨b, 0, .none⟩), .slice p n c] w fun e w' => (∃ v, e = .returned v) ∧ ∃ k j, w' = ((((w.drewN k).setCells b t (by8 (ys.take (min n (512 - t))))).drewN j).setCells b 0 (by8 (ys.drop (min n (512 - t))))).setCell ⟨b, 513, .none⟩ (.int .u32 ((s + n) % 4294967296)) := by
  have c2 := h.c2
  have bs := h.bs
  have HB : Hid (Byt w p n c ys) := hB
  have HR : Hid (Rng w b B r s rd wt) := h
  have HP : Hid (0 < n → NB p b) := hp
  obtain ⟨m, hm⟩ : ∃ m, m = min n (512 - t) := ⟨_, rfl⟩
  have HM : Hid (m = min n (512 - t)) := hm
  have hm1 : m ≤ n := by omega
  have hm2 : m ≤ 512 - t := by omega
  rw [← hm]
  have hnc := hB.2.1
  have hcm : c ≤ 9223372036854775807 := hB.2.2.1
  have hl := hB.1
  have cr := cut_ring b t (s.tmod 512) (by rw [Int.tmod_eq_emod_of_nonneg bs.1]; exact ht) (by omega)
  have ar := all_ring b
  have ca := cutat p n c
  have cf := cut_from p n c m hm1
  have B1 : Hid (Byt w.drew p n c ys) := HB.out
  have M1 : Hid (m = Nat.min n (512 - t)) := HM.out
  have s2 : Hid (∀ j, j < m → (w.drew.cell? ⟨b, t + j, .none⟩).isSome = true) := fun j hj => by
    rw [World.cell?_drew, HR.out.cb (t + j) (by omega)]
    rfl
  have s3 : Hid (∀ j, j < m → w.drew.frozen? ⟨b, t + j, .none⟩ = false) := fun j hj => HR.out.fb _
  clear hB h hp hm
  go_enter Try.func27, Try.ntmps27
  go_upto_region 0 with fail
  go_region_law (refine step_copy_byt rfl (.tmp 13) (.tmp 14) rfl b t (512 - t) (512 - t) p n c ys (by simp [Act.eval, Act.put]) (by simp [Act.eval, Act.put]) B1.out m M1.out s2.out s3.out ?_)
  obtain ⟨w1, hw1⟩ : ∃ w1, w1 = w.drew.setCells b t (by8 (ys.take m)) := ⟨_, rfl⟩
  have W1 : Hid (w1 = w.drew.setCells b t (by8 (ys.take m))) := hw1
  rw [← hw1]
  have T1 : Hid (Trn b w w1) := by rw [W1.out]; exact (Trn.drew b w).trans (Trn.setCells _ _ _ _)
  have lm : (by8 (ys.take m)).length = m := by rw [by8_len, List.length_take]; omega
  have d2 : w1.cell? ⟨b, 513, .none⟩ = some (.int .u32 s) := by
    rw [W1.out, World.cell?_setCells_out _ _ _ _ _ (fun _ _ => .inr (by rw [lm]; show t + m ≤ 513; omega))]
    exact c2
  have B2 : Hid (Byt w1.drew (cutp p c m) (n - m) (c - m) (ys.drop m)) := by
    have := byt_cut (T1.out.byt HB.out (fun h => (HP.out h).at)) m n hm1 (Nat.le_refl _)
    rw [List.take_of_length_le (by omega)] at this
    exact this
  have M2 : Hid (n - m = Nat.min (n - m) 512) := (Nat.min_eq_left (by omega)).symm
  have k2 : Hid (∀ j, j < n - m → (w1.drew.cell? ⟨b, 0 + j, .none⟩).isSome = true) := fun j hj => by
    rw [World.cell?_drew, W1.out]
    exact World.isSome_setCells _ _ _ _ _ (by rw [World.cell?_drew, HR.out.cb (0 + j) (by omega)]; rfl)
  have k3 : Hid (∀ j, j < n - m → w1.drew.frozen? ⟨b, 0 + j, .none⟩ = false) := fun j hj => by
    rw [World.frozen?_drew, W1.out, World.frozen?_setCells]
    exact HR.out.fb _
  have f2 : ∀ o vs, (w1.drew.setCells b o vs).frozen? ⟨b, 513, .none⟩ = false := fun o vs => by
    rw [World.frozen?_setCells, World.frozen?_drew, W1.out, World.frozen?_setCells]
    exact HR.out.fb _
  have d3 : ∀ vs, vs.length ≤ 512 → (w1.drew.setCells b 0 vs).cell? ⟨b, 513, .none⟩ = some (.int .u32 s) := fun vs hv => by
    rw [World.cell?_setCells_out _ _ _ _ _ (fun _ _ => .inr (by show 0 + vs.length ≤ 513; omega))]
    exact d2
  have l2 : (by8 (ys.drop m)).length ≤ 512 := by rw [by8_len, List.length_drop]; omega
  have d4 := d3 _ l2
  have f4 := f2 0 (by8 (ys.drop m))
  have tk : (ys.drop m).take (n - m) = ys.drop m := List.take_of_length_le (by rw [List.length_drop]; omega)
  clear hw1 s2 s3 B1 M1 d3 f2 l2 lm c2
  go_upto_region 1 with fail
  go_region_law (refine step_copy_byt rfl (.tmp 19) (.tmp 22) rfl b 0 512 512 (cutp p c m) (n - m) (c - m) (ys.drop m) (by simp [Act.eval, Act.put]) (by simp [Act.eval, Act.put]) B2.out (n - m) M2.out k2.out k3.out ?_)
  have ew : IntKind.u32.wrap (s + n) = (s + n) % 4294967296 := by simp [IntKind.wrap, IntKind.bits, IntKind.signed]
  have ew2 : IntKind.u32.wrap n = n := by simp [IntKind.wrap, IntKind.bits, IntKind.signed]; omega
  try rw [tk]
  go_wp2
  go_end0
  refine ⟨⟨_, rfl⟩, 1, 1, ?_⟩
  rw [W1.out]
  rfl
end Go.Proofs.Ytabhojfdkmeaoaa
