import Derived.Test.YthdlefbaegbldaaGreatDoorCb
import Derived.Laws.IdiomCopy
import Derived.Deep.MidRow
import Derived.Deep.RegionLaw
import Derived.Deep.Cut
import Derived.Deep.Upon
namespace Go.Proofs.YthdlefbaegbldaaGreatDoor
open Go.RowKit
set_option linter.unusedVariables false
set_option linter.unusedSimpArgs false
set_option maxRecDepth 100000
/-- The cells of a pipe that was made. -/
structure Rng (w : World) (b : Nat) (B : Nat → Int) (r s : Int) (rd wt : Bool) : Prop where
  cb : ∀ i, i < 512 → w.cell? ⟨b, i, .none⟩ = some (.int .u8 (B i))
  fb : ∀ i, w.frozen? ⟨b, i, .none⟩ = false
  c1 : w.cell? ⟨b, 512, .none⟩ = some (.int .u32 r)
  c2 : w.cell? ⟨b, 513, .none⟩ = some (.int .u32 s)
  c3 : w.cell? ⟨b, 514, .none⟩ = some (.bool rd)
  c4 : w.cell? ⟨b, 515, .none⟩ = some (.bool wt)
  c5 : w.cell? ⟨b, 516, .none⟩ = some (.bool true)
  bb : ∀ i, 0 ≤ B i ∧ B i < 256
  br : 0 ≤ r ∧ r < 4294967296
  bs : 0 ≤ s ∧ s < 4294967296
theorem Rng.lt {w : World} {b : Nat} {B : Nat → Int} {r s : Int} {rd wt : Bool} (h : Rng w b B r s rd wt) : b < w.heap.size := lt_cell h.c1
theorem Rng.keep {w v : World} {b g : Nat} {B : Nat → Int} {r s : Int} {rd wt : Bool} (h : Rng w b B r s rd wt) (t : Trn g w v) (hg : b ≠ g) : Rng v b B r s rd wt :=
  ⟨fun i hi => (t.cell (p := ⟨b, i, .none⟩) h.lt hg).trans (h.cb i hi), fun i => (t.frozen (p := ⟨b, i, .none⟩) h.lt hg).trans (h.fb i), (t.cell (p := ⟨b, 512, .none⟩) h.lt hg).trans h.c1, (t.cell (p := ⟨b, 513, .none⟩) h.lt hg).trans h.c2,
    (t.cell (p := ⟨b, 514, .none⟩) h.lt hg).trans h.c3, (t.cell (p := ⟨b, 515, .none⟩) h.lt hg).trans h.c4, (t.cell (p := ⟨b, 516, .none⟩) h.lt hg).trans h.c5, h.bb, h.br, h.bs⟩
/-- A pipe with these bytes in it. -/
def Pip (w : World) (b : Nat) (xs : List Int) (r : Int) (rd wt : Bool) : Prop :=
  xs.length ≤ 512 ∧ ∃ B, Rng w b B r ((r + xs.length) % 4294967296) rd wt ∧ ∀ j x, xs[j]? = some x → B ((r.toNat + j) % 512) = x
theorem Pip.keep {w v : World} {b g : Nat} {xs : List Int} {r : Int} {rd wt : Bool} (h : Pip w b xs r rd wt) (t : Trn g w v) (hg : b ≠ g) : Pip v b xs r rd wt := by
  obtain ⟨h1, B, h2, h3⟩ := h
  exact ⟨h1, B, h2.keep t hg, h3⟩
theorem Pip.lt {w : World} {b : Nat} {xs : List Int} {r : Int} {rd wt : Bool} (h : Pip w b xs r rd wt) : b < w.heap.size := by
  obtain ⟨h1, B, h2, h3⟩ := h
  exact h2.lt
theorem Pip.below {w v : World} {b : Nat} {xs : List Int} {r : Int} {rd wt : Bool} (h : Pip w b xs r rd wt) (t : Below w.heap.size w v) : Pip v b xs r rd wt :=
  h.keep (g := w.heap.size) (Trn.ofBelow t) (by have := h.lt; omega)
theorem Pip.bytes {w : World} {b : Nat} {xs : List Int} {r : Int} {rd wt : Bool} (h : Pip w b xs r rd wt) : ∀ x ∈ xs, 0 ≤ x ∧ x < 256 := by
  obtain ⟨h1, B, h2, h3⟩ := h
  intro x hx
  obtain ⟨j, hj⟩ := List.mem_iff_getElem?.1 hx
  rw [← h3 j x hj]
  exact h2.bb _
/-- A row of bytes is not a pipe's block. -/
theorem Rng.ne_own {w : World} {b : Nat} {B : Nat → Int} {r s : Int} {rd wt : Bool} (h : Rng w b B r s rd wt) {X : Nat} {v : Value} {n : Nat} {xs : List Int} (hO : w.ownsRow X 5 1 v n (by8 xs)) (hn : 516 < n) : v.ownBlock ≠ some b := by
  intro e
  rcases hO.2 with ⟨rfl, _⟩ | ⟨g, cap, cur, rfl, _⟩
  · cases e
  · simp only [Value.ownBlock, Option.some.injEq] at e
    subst e
    have hl := hO.1
    rw [by8_len] at hl
    have hx : xs[516]? = some (xs[516]'(by omega)) := by simp
    have := World.ownsRow.cells hO (g := g) rfl 516 _ (by8_get hx)
    rw [le_addr_add, Nat.zero_add, h.c5] at this
    cases this
set_option maxHeartbeats 1000000 in
theorem isMade_anyP {w : World} {b : Nat} {B : Nat → Int} {r s : Int} {rd wt : Bool} (h : Rng w b B r s rd wt) : Calls Tryz.prog 64 #[.pointer (some ⟨b, 0, .none⟩)] w fun e w' => e = .returned (.bool true) ∧ w' = w := by
  have c5 := h.c5
  clear h
  go_enter Tryz.func64, Tryz.ntmps64
  go_wp2
  go_ret
  exact ⟨rfl, rfl⟩
set_option maxHeartbeats 1000000 in
theorem held_any {w : World} {b : Nat} {B : Nat → Int} {r s : Int} {rd wt : Bool} (h : Rng w b B r s rd wt) (n : Nat) (hn : n ≤ 512) (hs : s = (r + n) % 4294967296) : Calls Tryz.prog 66 #[.pointer (some ⟨b, 0, .none⟩)] w fun e w' => e = .returned (.int .i64 n) ∧ ∃ k, w' = w.drewN k := by
  have c1 := h.c1
  have c2 := h.c2
  have br := h.br
  have e1 : IntKind.u32.wrap (s - r) = n := by simp only [IntKind.wrap, IntKind.bits, IntKind.signed]; simp; omega
  clear h hs
  go_enter Tryz.func66, Tryz.ntmps66
  go_wp2
  go_region
  go_wp2
  go_ret
  exact ⟨rfl, _, rfl⟩
end Go.Proofs.YthdlefbaegbldaaGreatDoor
namespace Go.Proofs.YthdlefbaegbldaaGreatDoor
open Go.RowKit
set_option linter.unusedVariables false
set_option linter.unusedSimpArgs false
set_option maxRecDepth 100000
theorem alen : Tryz.prog.arrayLen 98 = 512 := by kernel_rfl
theorem elem24 (W : World) : (sizeOf (Tryz.prog.elem 98)).run Tryz.prog W = .ok 1 W := by
  have e : Tryz.prog.elem 98 = 5 := by kernel_rfl
  obtain ⟨i, z, hi, _, hs, _⟩ := byte_info
  rw [e]
  simp [sizeOf, typeInfo, hi, hs]
theorem cut_ring (b t : Nat) (x : Int) (hx : x = t) (ht : t < 512) (W : World) : (Instr.sliceAt 98 (.pointer (some ⟨b, 0, .none⟩)) (some (.int .u32 x)) none none).run Tryz.prog W = .ok (.slice (some ⟨b, t, .none⟩) (512 - t) (512 - t)) W := by
  rw [run_sliceAt_array_l W 98 ⟨b, 0, none⟩ (by kernel_rfl) .u32 x (by omega) (by rw [alen]; omega), alen, hx, Int.toNat_natCast, elem24]
  have : ¬ 512 = t := by omega
  simp [Result.andThen, slicedAt, le_addr_add, this]
theorem all_ring (b : Nat) (W : World) : (Instr.sliceAt 98 (.pointer (some ⟨b, 0, .none⟩)) none none none).run Tryz.prog W = .ok (.slice (some ⟨b, 0, .none⟩) 512 512) W := by
  rw [run_sliceAt_array_all W 98 ⟨b, 0, none⟩ (by kernel_rfl), alen, elem24]
  simp [Result.andThen, slicedAt, le_addr_add]
set_option maxHeartbeats 1000000 in
theorem lay_any {w : World} {b : Nat} {B : Nat → Int} {r s : Int} {rd wt : Bool} (h : Rng w b B r s rd wt) {p : Option Addr} {n c : Nat} {ys : List Int} (hB : Byt w p n c ys) (hp : 0 < n → NB p b) (hn : n ≤ 512) (t : Nat) (ht : s % 512 = t) (ht2 : t < 512) :
    Calls Tryz.prog 114 #[.pointer (some ⟨b, 0, .none⟩), .slice p n c] w fun e w' => (∃ v, e = .returned v) ∧ ∃ k j, w' = ((((w.drewN k).setCells b t (by8 (ys.take (min n (512 - t))))).drewN j).setCells b 0 (by8 (ys.drop (min n (512 - t))))).setCell ⟨b, 513, .none⟩ (.int .u32 ((s + n) % 4294967296)) := by
  have c2 := h.c2
  have bs := h.bs
  have HB : Hid (Byt w p n c ys) := hB
  have HR : Hid (Rng w b B r s rd wt) := h
  have HP : Hid (0 < n → NB p b) := hp
  obtain ⟨m, hm⟩ : ∃ m, m = min n (512 - t) := ⟨_, rfl⟩
  have HM : Hid (m = min n (512 - t)) := hm
  have hm1 : m ≤ n := by omega
  have hm2 : m ≤ 512 - t := by omega
  rw [← hm]
  have hnc := hB.2.1
  have hcm : c ≤ 9223372036854775807 := hB.2.2.1
  have hl := hB.1
  have cr := cut_ring b t (s.tmod 512) (by rw [Int.tmod_eq_emod_of_nonneg bs.1]; exact ht) (by omega)
  have ar := all_ring b
  have ca := cutat p n c
  have cf := cut_from p n c m hm1
  have B1 : Hid (Byt w.drew p n c ys) := HB.out
  have M1 : Hid (m = Nat.min n (512 - t)) := HM.out
  have s2 : Hid (∀ j, j < m → (w.drew.cell? ⟨b, t + j, .none⟩).isSome = true) := fun j hj => by
    rw [World.cell?_drew, HR.out.cb (t + j) (by omega)]
    rfl
  have s3 : Hid (∀ j, j < m → w.drew.frozen? ⟨b, t + j, .none⟩ = false) := fun j hj => HR.out.fb _
  clear hB h hp hm
  go_enter Tryz.func114, Tryz.ntmps114
  go_upto_region 0 with fail
  go_region_law (refine step_copy_byt rfl (.tmp 13) (.tmp 14) rfl b t (512 - t) (512 - t) p n c ys (by simp [Act.eval, Act.put]) (by simp [Act.eval, Act.put]) B1.out m M1.out s2.out s3.out ?_)
  obtain ⟨w1, hw1⟩ : ∃ w1, w1 = w.drew.setCells b t (by8 (ys.take m)) := ⟨_, rfl⟩
  have W1 : Hid (w1 = w.drew.setCells b t (by8 (ys.take m))) := hw1
  rw [← hw1]
  have T1 : Hid (Trn b w w1) := by rw [W1.out]; exact (Trn.drew b w).trans (Trn.setCells _ _ _ _)
  have lm : (by8 (ys.take m)).length = m := by rw [by8_len, List.length_take]; omega
  have d2 : w1.cell? ⟨b, 513, .none⟩ = some (.int .u32 s) := by
    rw [W1.out, World.cell?_setCells_out _ _ _ _ _ (fun _ _ => .inr (by rw [lm]; show t + m ≤ 513; omega))]
    exact c2
  have B2 : Hid (Byt w1.drew (cutp p c m) (n - m) (c - m) (ys.drop m)) := by
    have := byt_cut (T1.out.byt HB.out (fun h => (HP.out h).at)) m n hm1 (Nat.le_refl _)
    rw [List.take_of_length_le (by omega)] at this
    exact this
  have M2 : Hid (n - m = Nat.min (n - m) 512) := (Nat.min_eq_left (by omega)).symm
  have k2 : Hid (∀ j, j < n - m → (w1.drew.cell? ⟨b, 0 + j, .none⟩).isSome = true) := fun j hj => by
    rw [World.cell?_drew, W1.out]
    exact World.isSome_setCells _ _ _ _ _ (by rw [World.cell?_drew, HR.out.cb (0 + j) (by omega)]; rfl)
  have k3 : Hid (∀ j, j < n - m → w1.drew.frozen? ⟨b, 0 + j, .none⟩ = false) := fun j hj => by
    rw [World.frozen?_drew, W1.out, World.frozen?_setCells]
    exact HR.out.fb _
  have f2 : ∀ o vs, (w1.drew.setCells b o vs).frozen? ⟨b, 513, .none⟩ = false := fun o vs => by
    rw [World.frozen?_setCells, World.frozen?_drew, W1.out, World.frozen?_setCells]
    exact HR.out.fb _
  have d3 : ∀ vs, vs.length ≤ 512 → (w1.drew.setCells b 0 vs).cell? ⟨b, 513, .none⟩ = some (.int .u32 s) := fun vs hv => by
    rw [World.cell?_setCells_out _ _ _ _ _ (fun _ _ => .inr (by show 0 + vs.length ≤ 513; omega))]
    exact d2
  have l2 : (by8 (ys.drop m)).length ≤ 512 := by rw [by8_len, List.length_drop]; omega
  have d4 := d3 _ l2
  have f4 := f2 0 (by8 (ys.drop m))
  have tk : (ys.drop m).take (n - m) = ys.drop m := List.take_of_length_le (by rw [List.length_drop]; omega)
  clear hw1 s2 s3 B1 M1 d3 f2 l2 lm c2
  go_upto_region 1 with fail
  go_region_law (refine step_copy_byt rfl (.tmp 19) (.tmp 22) rfl b 0 512 512 (cutp p c m) (n - m) (c - m) (ys.drop m) (by simp [Act.eval, Act.put]) (by simp [Act.eval, Act.put]) B2.out (n - m) M2.out k2.out k3.out ?_)
  have ew : IntKind.u32.wrap (s + n) = (s + n) % 4294967296 := by simp [IntKind.wrap, IntKind.bits, IntKind.signed]
  have ew2 : IntKind.u32.wrap n = n := by simp [IntKind.wrap, IntKind.bits, IntKind.signed]; omega
  try rw [tk]
  go_wp2
  go_end0
  refine ⟨⟨_, rfl⟩, 1, 1, ?_⟩
  rw [W1.out]
  rfl
end Go.Proofs.YthdlefbaegbldaaGreatDoor
namespace Go.Proofs.YthdlefbaegbldaaGreatDoor
open Go.RowKit
set_option linter.unusedVariables false
set_option linter.unusedSimpArgs false
set_option maxRecDepth 100000
/-- Bytes laid over others. -/
def ovrP (B : Nat → Int) (t : Nat) (zs : List Int) : Nat → Int := fun i => if t ≤ i ∧ i < t + zs.length then zs.getD (i - t) 0 else B i
section
variable {w : World} {b i : Nat} {v : Value} {B : Nat → Int} {r s : Int} {rd wt : Bool}
theorem Rng.drewN (h : Rng w b B r s rd wt) (k : Nat) : Rng (w.drewN k) b B r s rd wt := ⟨h.cb, h.fb, h.c1, h.c2, h.c3, h.c4, h.c5, h.bb, h.br, h.bs⟩
theorem Rng.over (h : Rng w b B r s rd wt) (t : Nat) (zs : List Int) (ht : t + zs.length ≤ 512) (hz : ∀ z ∈ zs, 0 ≤ z ∧ z < 256) : Rng (w.setCells b t (by8 zs)) b (ovrP B t zs) r s rd wt := by
  have hl := by8_len zs
  refine ⟨fun i hi => ?_, fun i => ?_, cell_out h.c1 _ _ (by omega), cell_out h.c2 _ _ (by omega), cell_out h.c3 _ _ (by omega), cell_out h.c4 _ _ (by omega), cell_out h.c5 _ _ (by omega), fun i => ?_, h.br, h.bs⟩
  · unfold ovrP
    split
    · rename_i hc
      obtain ⟨j, rfl⟩ : ∃ j, i = t + j := ⟨i - t, by omega⟩
      rw [World.cell?_setCells_in b (by8 zs) t w (fun j hj => by rw [h.cb (t + j) (by omega)]; rfl) j (by omega)]
      have : (by8 zs)[j]? = some (.int .u8 (zs[j]'(by omega))) := by8_get (by simp)
      rw [List.getElem?_eq_getElem (by omega)] at this
      rw [Option.some.inj this, Nat.add_sub_cancel_left, List.getD_eq_getElem?_getD, List.getElem?_eq_getElem (by omega)]
      rfl
    · exact cell_out (h.cb i hi) _ _ (by omega)
  · rw [World.frozen?_setCells]
    exact h.fb i
  · unfold ovrP
    split
    · rename_i hc
      rw [List.getD_eq_getElem?_getD, List.getElem?_eq_getElem (by omega)]
      exact hz _ (by simp)
    · exact h.bb i
theorem Rng.froz (h : Rng w b B r s rd wt) (o : Nat) (u : Value) : ∀ i, (w.setCell ⟨b, o, .none⟩ u).frozen? ⟨b, i, .none⟩ = false := fun i => by
  have := World.frozen?_setCells b [u] o w ⟨b, i, .none⟩
  exact this.trans (h.fb i)
theorem Rng.setS (h : Rng w b B r s rd wt) (s' : Int) (hs : 0 ≤ s' ∧ s' < 4294967296) : Rng (w.setCell ⟨b, 513, .none⟩ (.int .u32 s')) b B r s' rd wt :=
  ⟨fun i hi => cell_off (h.cb i hi) _ _ (by omega), h.froz _ _, cell_off h.c1 _ _ (by decide), cell_one h.c2 _, cell_off h.c3 _ _ (by decide), cell_off h.c4 _ _ (by decide), cell_off h.c5 _ _ (by decide), h.bb, h.br, hs⟩
theorem Rng.setR (h : Rng w b B r s rd wt) (r' : Int) (hs : 0 ≤ r' ∧ r' < 4294967296) : Rng (w.setCell ⟨b, 512, .none⟩ (.int .u32 r')) b B r' s rd wt :=
  ⟨fun i hi => cell_off (h.cb i hi) _ _ (by omega), h.froz _ _, cell_one h.c1 _, cell_off h.c2 _ _ (by decide), cell_off h.c3 _ _ (by decide), cell_off h.c4 _ _ (by decide), cell_off h.c5 _ _ (by decide), h.bb, hs, h.bs⟩
theorem Rng.setRd (h : Rng w b B r s rd wt) (x : Bool) : Rng (w.setCell ⟨b, 514, .none⟩ (.bool x)) b B r s x wt :=
  ⟨fun i hi => cell_off (h.cb i hi) _ _ (by omega), h.froz _ _, cell_off h.c1 _ _ (by decide), cell_off h.c2 _ _ (by decide), cell_one h.c3 _, cell_off h.c4 _ _ (by decide), cell_off h.c5 _ _ (by decide), h.bb, h.br, h.bs⟩
theorem Rng.setWt (h : Rng w b B r s rd wt) (x : Bool) : Rng (w.setCell ⟨b, 515, .none⟩ (.bool x)) b B r s rd x :=
  ⟨fun i hi => cell_off (h.cb i hi) _ _ (by omega), h.froz _ _, cell_off h.c1 _ _ (by decide), cell_off h.c2 _ _ (by decide), cell_off h.c3 _ _ (by decide), cell_one h.c4 _, cell_off h.c5 _ _ (by decide), h.bb, h.br, h.bs⟩
end
/-- The ring behind a Put. -/
theorem ring_put (B : Nat → Int) (R : Nat) (xs ys : List Int) (hx : ∀ j x, xs[j]? = some x → B ((R + j) % 512) = x) (hl : xs.length + ys.length ≤ 512) (t m : Nat) (ht : t = (R + xs.length) % 512) (hm : m = min ys.length (512 - t)) :
    ∀ j x, (xs ++ ys)[j]? = some x → ovrP (ovrP B t (ys.take m)) 0 (ys.drop m) ((R + j) % 512) = x := by
  intro j x hj
  have h1 : (ys.take m).length = m := by rw [List.length_take]; omega
  have h2 : (ys.drop m).length = ys.length - m := by rw [List.length_drop]
  unfold ovrP
  rw [h1, h2]
  by_cases hjl : j < xs.length
  · rw [List.getElem?_append_left hjl] at hj
    rw [if_neg (by omega), if_neg (by omega)]
    exact hx j x hj
  · rw [List.getElem?_append_right (by omega)] at hj
    have hj2 : j - xs.length < ys.length := (List.getElem?_eq_some_iff.1 hj).1
    by_cases hjm : j - xs.length < m
    · rw [if_neg (by omega), if_pos (by omega)]
      have e : (R + j) % 512 - t = j - xs.length := by omega
      rw [e, List.getD_eq_getElem?_getD, List.getElem?_take, if_pos hjm, hj]
      rfl
    · rw [if_pos (by omega)]
      have e : (R + j) % 512 - 0 = j - xs.length - m := by omega
      rw [e, List.getD_eq_getElem?_getD, List.getElem?_drop, show m + (j - xs.length - m) = j - xs.length by omega, hj]
      rfl
theorem lay_pip {w : World} {b : Nat} {xs : List Int} {r : Int} {rd wt : Bool} (h : Pip w b xs r rd wt) {p : Option Addr} {n c : Nat} {ys : List Int} (hB : Byt w p n c ys) (hp : 0 < n → NB p b) (hy : ∀ y ∈ ys, 0 ≤ y ∧ y < 256) (hn : xs.length + n ≤ 512) :
    Calls Tryz.prog 114 #[.pointer (some ⟨b, 0, .none⟩), .slice p n c] w fun e w' => (∃ v, e = .returned v) ∧ Pip w' b (xs ++ ys) r rd wt ∧ Trn b w w' := by
  obtain ⟨h1, B, h2, h3⟩ := h
  have hl := hB.1
  have br := h2.br
  obtain ⟨R, hR⟩ : ∃ R : Nat, r = R := ⟨r.toNat, by omega⟩
  subst hR
  have ht : ((R : Int) + (xs.length : Int)) % 4294967296 % 512 = (((R + xs.length) % 512 : Nat) : Int) := by omega
  refine (lay_any h2 hB hp (by omega) _ ht (by omega)).mono ?_
  rintro e w' ⟨he, k, j, rfl⟩
  generalize hm : min n (512 - (R + xs.length) % 512) = m
  refine ⟨he, ⟨by rw [List.length_append]; omega, ovrP (ovrP B ((R + xs.length) % 512) (ys.take m)) 0 (ys.drop m), ?_, ?_⟩, ?_⟩
  · have g1 := (h2.drewN k).over ((R + xs.length) % 512) (ys.take m) (by rw [List.length_take]; omega) (fun z hz => hy z (List.mem_of_mem_take hz))
    have g2 := (g1.drewN j).over 0 (ys.drop m) (by rw [List.length_drop]; omega) (fun z hz => hy z (List.mem_of_mem_drop hz))
    have e : (((R : Int) + (xs.length : Int)) % 4294967296 + n) % 4294967296 = ((R : Int) + ((xs ++ ys).length : Int)) % 4294967296 := by rw [List.length_append]; omega
    rw [e]
    exact g2.setS _ (by omega)
  · rw [Int.toNat_natCast] at h3 ⊢
    exact ring_put B R xs ys h3 (by omega) _ m rfl (by omega)
  · exact (((Trn.ofDrewN rfl).trans (Trn.setCells _ _ _ _)).trans (Trn.ofDrewN rfl)).trans ((Trn.setCells _ _ _ _).trans (Trn.setCell _ _ _ _))
end Go.Proofs.YthdlefbaegbldaaGreatDoor
namespace Go.Proofs.YthdlefbaegbldaaGreatDoor
open Go.RowKit
set_option linter.unusedVariables false
set_option linter.unusedSimpArgs false
set_option maxRecDepth 100000
theorem cut_own (g n m : Nat) (hm : m ≤ n) (W : World) : (Instr.slice 35 (.slice (some ⟨g, 0, .none⟩) n n) (some (.int .i64 m)) none none).run Tryz.prog W = .ok (.slice (some ⟨g, if n = m then 0 else m, .none⟩) (n - m) (n - m)) W := by
  rw [cut_from _ _ _ _ hm]
  congr 2
  unfold cutp
  split
  · rfl
  · simp only [Option.map_some, le_addr_add, Nat.zero_add]
/-- The ring's bytes from a place on. -/
def rows (B : Nat → Int) (t n : Nat) : List Int := (List.range n).map fun j => B (t + j)
theorem rows_len (B : Nat → Int) (t n : Nat) : (rows B t n).length = n := by simp [rows]
theorem rows_get {B : Nat → Int} {t n j : Nat} {x : Int} (h : (rows B t n)[j]? = some x) : j < n ∧ x = B (t + j) := by
  simp only [rows, List.getElem?_map, Option.map_eq_some_iff] at h
  obtain ⟨i, hi, rfl⟩ := h
  obtain ⟨h1, h2⟩ := List.getElem?_eq_some_iff.1 hi
  simp at h1 h2
  exact ⟨h1, by rw [h2]⟩
theorem rows_at (B : Nat → Int) (t n j : Nat) (h : j < n) : (rows B t n)[j]? = some (B (t + j)) := by simp [rows, h]
theorem Rng.byt {w : World} {b : Nat} {B : Nat → Int} {r s : Int} {rd wt : Bool} (h : Rng w b B r s rd wt) (t n : Nat) (htn : t + n ≤ 512) : Byt w (some ⟨b, t, .none⟩) n n (rows B t n) :=
  ⟨rows_len _ _ _, Nat.le_refl _, by simp only [maxLen]; omega, .inr ⟨b, t, rfl, h.lt, fun i x hx => by
    obtain ⟨h1, rfl⟩ := rows_get hx
    exact h.cb _ (by omega)⟩⟩
set_option maxHeartbeats 1000000 in
theorem first_pip {w : World} {b : Nat} {xs : List Int} {r : Int} {rd wt : Bool} (h : Pip w b xs r rd wt) (n : Int) (k : Nat) (hk : k = min n.toNat xs.length) :
    Calls Tryz.prog 65 #[.pointer (some ⟨b, 0, .none⟩), .int .i64 n] w fun e w' => ∃ p c, e = .returned (.slice p k c) ∧ w'.ownsRow w.heap.size 5 1 (.slice p k c) k (by8 (xs.take k)) ∧ Below w.heap.size w w' ∧ (k = 0 → p = none ∧ c = 0) := by
  obtain ⟨h1, B, h2, h3⟩ := h
  have HX : Hid (∀ j x, xs[j]? = some x → B ((r.toNat + j) % 512) = x) := h3
  have HR : Hid (Rng w b B r ((r + xs.length) % 4294967296) rd wt) := h2
  have c26 := held_any h2 xs.length h1 rfl
  generalize hL : xs.length = L at *
  obtain ⟨N, hN⟩ : ∃ N, N = n.toNat := ⟨_, rfl⟩
  rw [← hN] at hk
  have e1 : (if n < 0 then (0 : Int) else n) = (N : Int) := by split <;> omega
  have e2 : (if L < N then (L : Int) else (N : Int)) = (k : Int) := by split <;> omega
  have e3 : max n (0 : Int) = (N : Int) := by omega
  have e4 : min (N : Int) (L : Int) = (k : Int) := by omega
  have hkL : k ≤ L := by omega
  clear h2 h3 hN hk
  go_enter Tryz.func65, Tryz.ntmps65
  go_wp2_with fail
  refine c26.mono ?_
  rintro e w1 ⟨rfl, q, hq⟩
  have HR1 : Hid (Rng w1 b B r ((r + L) % 4294967296) rd wt) := by rw [hq]; exact HR.out.drewN q
  have HW : Hid (Below w.heap.size w w1 ∧ w1.heap.size = w.heap.size) := by subst hq; exact ⟨⟨rfl, rfl, rfl, Nat.le_refl _, fun _ _ => rfl⟩, rfl⟩
  clear hq c26 HR
  by_cases hk0 : k = 0
  · subst hk0
    go_wp2
    go_ret
    exact ⟨none, 0, rfl, World.ownsRow_nil _ _ _ _, HW.out.1, by simp⟩
  · obtain ⟨w2, hmk, bel2, cur, hcs, hg2⟩ := size_new w1 k (by omega)
    obtain ⟨g, hgg⟩ : ∃ g, g = w1.heap.size := ⟨_, rfl⟩
    rw [← hgg] at hmk hg2 bel2
    have hbg : b < g := by rw [hgg]; exact HR1.out.lt
    have HR2 : Hid (Rng w2 b B r ((r + L) % 4294967296) rd wt) := HR1.out.keep (g := w1.heap.size) (Trn.ofBelow (by rw [← hgg]; exact bel2)) (by omega)
    have HG : Hid (Below w.heap.size w w2 ∧ w.heap.size ≤ g) := ⟨HW.out.1.trans (bel2.mono (by rw [hgg]; have := HW.out.2; omega)), by rw [hgg]; have := HW.out.2; omega⟩
    have HC : Hid (w2.heap[g]? = some (.cells cur 5 (0, 0)) ∧ cur.size = k) := ⟨hg2, hcs⟩
    have c1 := HR2.out.c1
    have br := HR1.out.br
    obtain ⟨R, hR⟩ : ∃ R : Nat, r = R := ⟨r.toNat, by omega⟩
    obtain ⟨t, ht⟩ : ∃ t, t = R % 512 := ⟨_, rfl⟩
    have cr := cut_ring b t (r.tmod 512) (by rw [Int.tmod_eq_emod_of_nonneg br.1]; omega) (by omega)
    have ar := all_ring b
    obtain ⟨m, hm⟩ : ∃ m, m = min (512 - t) k := ⟨_, rfl⟩
    have HM : Hid (m = Nat.min (512 - t) k) := hm
    have hmk2 : m ≤ k := by omega
    have ca := cutat (some ⟨g, 0, .none⟩) k k
    obtain ⟨z, hz⟩ : ∃ z, z = if k = m then 0 else m := ⟨_, rfl⟩
    have HZ : Hid (z = if k = m then 0 else m) := hz
    have cf := cut_own g k m hmk2
    rw [← hz] at cf
    clear hz
    have HT : Hid (r = R ∧ t = R % 512 ∧ t < 512 ∧ (m = min (512 - t) k)) := ⟨hR, ht, by omega, hm⟩
    have B1 : Hid (Byt w2.drew (some ⟨b, t, .none⟩) (512 - t) (512 - t) (rows B t (512 - t))) := HR2.out.byt t (512 - t) (by omega)
    have s2 : Hid (∀ j, j < m → (w2.drew.cell? ⟨g, 0 + j, .none⟩).isSome = true) := fun j hj => cur_cell HC.out.1 _ (by have := HC.out.2; omega)
    have s3 : Hid (∀ j, j < m → w2.drew.frozen? ⟨g, 0 + j, .none⟩ = false) := fun j hj => cur_froz HC.out.1 _
    have ik : IntKind.i64.wrap (k : Int) = k := by simp only [IntKind.wrap, IntKind.bits, IntKind.signed]; simp; omega
    clear hm ht hR hg2 hcs bel2 HR1 hgg
    go_upto_region 5 with fail
    go_region_law (refine step_copy_byt rfl (.tmp 16) (.tmp 25) rfl g 0 k k (some ⟨b, t, .none⟩) (512 - t) (512 - t) (rows B t (512 - t)) (by simp [Act.eval, Act.put]) (by simp [Act.eval, Act.put]) B1.out m HM.out s2.out s3.out ?_)
    obtain ⟨w3, hw3⟩ : ∃ w3, w3 = w2.drew.setCells g 0 (by8 ((rows B t (512 - t)).take m)) := ⟨_, rfl⟩
    have W3 : Hid (w3 = w2.drew.setCells g 0 (by8 ((rows B t (512 - t)).take m))) := hw3
    rw [← hw3]
    clear hw3 hmk c1
    have HR3 : Hid (Rng w3 b B r ((r + L) % 4294967296) rd wt) := by rw [W3.out]; exact HR2.out.keep ((Trn.drew g w2).trans (Trn.setCells _ _ _ _)) (by omega)
    have B2 : Hid (Byt w3.drew (some ⟨b, 0, .none⟩) 512 512 (rows B 0 512)) := HR3.out.byt 0 512 (by omega)
    obtain ⟨cur3, hcs3, hg3⟩ := row_set (n := k) (w := w2.drew) HC.out.1 0 (by8 ((rows B t (512 - t)).take m))
    rw [← W3.out] at hg3
    have HC3 : Hid (w3.heap[g]? = some (.cells cur3 5 (0, 0)) ∧ cur3.size = k) := ⟨hg3, hcs3.trans HC.out.2⟩
    clear hg3 hcs3
    have M2 : Hid (k - m = Nat.min 512 (k - m)) := (Nat.min_eq_right (by omega)).symm
    have hz0 : Hid (0 < k - m → z = m) := fun h => by rw [HZ.out, if_neg (by omega)]
    have k2 : Hid (∀ j, j < k - m → (w3.drew.cell? ⟨g, z + j, .none⟩).isSome = true) := fun j hj => cur_cell HC3.out.1 _ (by have := HC3.out.2; have := hz0.out (by omega); omega)
    have k3 : Hid (∀ j, j < k - m → w3.drew.frozen? ⟨g, z + j, .none⟩ = false) := fun j hj => cur_froz HC3.out.1 _
    go_upto_region 6 with fail
    go_region_law (refine step_copy_byt rfl (.tmp 29) (.tmp 33) rfl g z (k - m) (k - m) (some ⟨b, 0, .none⟩) 512 512 (rows B 0 512) (by simp [Act.eval, Act.put]) (by simp [Act.eval, Act.put]) B2.out (k - m) M2.out k2.out k3.out ?_)
    obtain ⟨w4, hw4⟩ : ∃ w4, w4 = w3.drew.setCells g z (by8 ((rows B 0 512).take (k - m))) := ⟨_, rfl⟩
    have W4 : Hid (w4 = w3.drew.setCells g z (by8 ((rows B 0 512).take (k - m)))) := hw4
    rw [← hw4]
    clear hw4
    go_wp2
    go_ret
    obtain ⟨cur4, hcs4, hg4⟩ := row_set (n := k) (w := w3.drew) HC3.out.1 z (by8 ((rows B 0 512).take (k - m)))
    rw [← W4.out] at hg4
    obtain ⟨e1, e2, e3, e4⟩ := HT.out
    refine ⟨_, _, rfl, own_of hg4 (hcs4.trans HC3.out.2) HG.out.2 (by omega) (by rw [List.length_take]; omega) ?_, ?_, fun h => absurd h hk0⟩
    · intro j x hj
      have hjk : j < k := by have := (List.getElem?_eq_some_iff.1 hj).1; rw [List.length_take] at this; omega
      rw [List.getElem?_take, if_pos hjk] at hj
      have hx := HX.out j x hj
      rw [e1, Int.toNat_natCast] at hx
      have l2 : (by8 ((rows B 0 512).take (k - m))).length = k - m := by rw [by8_len, List.length_take, rows_len]; omega
      have l1 : (by8 ((rows B t (512 - t)).take m)).length = m := by rw [by8_len, List.length_take, rows_len]; omega
      by_cases hjm : j < m
      · have c3 : w3.cell? ⟨g, j, .none⟩ = some (.int .u8 x) := by
          have := World.cell?_setCells_in g (by8 ((rows B t (512 - t)).take m)) 0 w2.drew (fun i hi => s2.out i (by omega)) j (by omega)
          rw [← W3.out, Nat.zero_add] at this
          rw [this]
          have hr : ((rows B t (512 - t)).take m)[j]? = some x := by
            rw [List.getElem?_take, if_pos hjm, rows_at _ _ _ _ (by omega), ← hx]
            congr 2
            omega
          have := by8_get hr
          rw [List.getElem?_eq_getElem (by omega)] at this
          exact this
        rw [W4.out]
        exact cell_out (w := w3.drew) c3 _ _ (by
          rw [l2]
          by_cases h0 : k - m = 0
          · right
            have := HZ.out
            rw [if_pos (by omega)] at this
            omega
          · left
            have := hz0.out (by omega)
            omega)
      · have hzm := hz0.out (by omega)
        have := World.cell?_setCells_in g (by8 ((rows B 0 512).take (k - m))) z w3.drew (fun i hi => k2.out i (by omega)) (j - m) (by omega)
        rw [← W4.out, show z + (j - m) = j by omega] at this
        rw [this]
        have hr : ((rows B 0 512).take (k - m))[j - m]? = some x := by
          rw [List.getElem?_take, if_pos (by omega), rows_at _ _ _ _ (by omega), ← hx]
          congr 2
          omega
        have := by8_get hr
        rw [List.getElem?_eq_getElem (by omega)] at this
        exact this
    · have t1 : Below w.heap.size w2 w3 := by
        rw [W3.out]
        exact ((Trn.drew g w2).trans (Trn.setCells _ _ _ _)).toBelow HG.out.2 HG.out.1.size
      have t2 : Below w.heap.size w3 w4 := by
        rw [W4.out]
        exact ((Trn.drew g w3).trans (Trn.setCells _ _ _ _)).toBelow HG.out.2 (Nat.le_trans HG.out.1.size t1.size)
      exact (HG.out.1.trans t1).trans t2
end Go.Proofs.YthdlefbaegbldaaGreatDoor
namespace Go.Proofs.YthdlefbaegbldaaGreatDoor
open Go.RowKit
set_option linter.unusedVariables false
set_option linter.unusedSimpArgs false
set_option maxRecDepth 100000
theorem pip_made {w : World} {b : Nat} {xs : List Int} {r : Int} {rd wt : Bool} (h : Pip w b xs r rd wt) : Calls Tryz.prog 64 #[.pointer (some ⟨b, 0, .none⟩)] w fun e w' => e = .returned (.bool true) ∧ w' = w := by
  obtain ⟨h1, B, h2, h3⟩ := h
  exact isMade_anyP h2
theorem pip_held {w : World} {b : Nat} {xs : List Int} {r : Int} {rd wt : Bool} (h : Pip w b xs r rd wt) : Calls Tryz.prog 66 #[.pointer (some ⟨b, 0, .none⟩)] w fun e w' => e = .returned (.int .i64 xs.length) ∧ ∃ k, w' = w.drewN k := by
  obtain ⟨h1, B, h2, h3⟩ := h
  exact held_any h2 _ h1 rfl
theorem Pip.drewN {w : World} {b : Nat} {xs : List Int} {r : Int} {rd wt : Bool} (h : Pip w b xs r rd wt) (k : Nat) : Pip (w.drewN k) b xs r rd wt := by
  obtain ⟨h1, B, h2, h3⟩ := h
  exact ⟨h1, B, h2.drewN k, h3⟩
/-- What a Put does. -/
def putN (xs : List Int) (rd : Bool) (ys : List Int) : Nat := if rd then min ys.length (512 - xs.length) else 0
def putHow (xs : List Int) (rd : Bool) (ys : List Int) : Int := if ys.length = 0 then 1 else if rd then (if putN xs rd ys < ys.length then 2 else 1) else 3
set_option maxHeartbeats 1000000 in
theorem put_pip {w : World} {b : Nat} {xs : List Int} {r : Int} {rd wt : Bool} (h : Pip w b xs r rd wt) {p : Option Addr} {n c : Nat} {ys : List Int} (hB : Byt w p n c ys) (hp : 0 < n → NB p b) (hy : ∀ y ∈ ys, 0 ≤ y ∧ y < 256) :
    Calls Tryz.prog 100 #[.pointer (some ⟨b, 0, .none⟩), .slice p n c] w fun e w' => e = .returned (.tuple #[.int .i64 (putN xs rd ys), .int .i64 (putHow xs rd ys)]) ∧ Pip w' b (xs ++ ys.take (putN xs rd ys)) r rd wt ∧ Trn b w w' := by
  have c25 := pip_made h
  have hl := hB.1
  have hnc := hB.2.1
  have hcm : c ≤ 9223372036854775807 := hB.2.2.1
  have hx := h.1
  have HP : Hid (Pip w b xs r rd wt) := h
  have HB : Hid (Byt w p n c ys) := hB
  have HN : Hid (0 < n → NB p b) := hp
  have HY : Hid (∀ y ∈ ys, 0 ≤ y ∧ y < 256) := hy
  have c3 : w.cell? ⟨b, 514, .none⟩ = some (.bool rd) := by obtain ⟨h1, B, h2, h3⟩ := h; exact h2.c3
  clear h hB hp hy
  by_cases h0 : n = 0
  · subst h0
    have e0 : ys = [] := List.length_eq_zero_iff.1 hl
    subst e0
    go_enter Tryz.func100, Tryz.ntmps100
    go_wp2_with fail
    refine c25.mono ?_
    rintro e w1 ⟨rfl, hw1⟩
    obtain rfl : w = w1 := hw1.symm
    go_wp2
    go_ret2
    have e1 : putN xs rd [] = 0 := by simp [putN]
    rw [e1]
    exact ⟨by simp [putHow], by simpa using HP.out, Trn.refl _ _⟩
  · cases rd with
    | false =>
      go_enter Tryz.func100, Tryz.ntmps100
      go_wp2_with fail
      refine c25.mono ?_
      rintro e w1 ⟨rfl, hw1⟩
      obtain rfl : w = w1 := hw1.symm
      go_wp2
      go_ret2
      have e1 : putN xs false ys = 0 := by simp [putN]
      rw [e1]
      exact ⟨by simp only [putHow]; rw [if_neg (by omega)]; rfl, by simpa using HP.out, Trn.refl _ _⟩
    | true =>
      obtain ⟨m, hm⟩ : ∃ m, m = putN xs true ys := ⟨_, rfl⟩
      have HM : Hid (m = min n (512 - xs.length)) := by show m = _; rw [hm]; simp [putN, hl]
      have HH : Hid (putHow xs true ys = if m < n then 2 else 1) := by
        show putHow xs true ys = _
        simp only [putHow, ← hm, hl, if_neg h0, if_true]
      rw [← hm]
      clear hm
      have hmn : m ≤ n := by have := HM.out; omega
      have e1 : (if (512 : Int) - xs.length < n then (512 : Int) - xs.length else n) = m := by have := HM.out; split <;> omega
      have e5 : min (n : Int) ((512 : Int) - xs.length) = m := by have := HM.out; omega
      have ca := cutat p n c
      have ct := cut_to p n c m (by omega)
      have c26 := pip_held HP.out
      generalize hL : xs.length = L at *
      go_enter Tryz.func100, Tryz.ntmps100
      go_wp2_with fail
      refine c25.mono ?_
      rintro e w1 ⟨rfl, hw1⟩
      obtain rfl : w = w1 := hw1.symm
      go_wp2_with fail
      refine c26.mono ?_
      rintro e w1 ⟨rfl, k, hk⟩
      have HP1 : Hid (Pip w1 b xs r true wt) := by rw [hk]; exact HP.out.drewN k
      have HT1 : Hid (Trn b w w1) := Trn.ofDrewN hk
      clear hk c26 c25
      have B1 : Hid (Byt w1 (cutp p c 0) m c (ys.take m)) := HT1.out.byt (byt_cut HB.out 0 m (by omega) hmn) (fun h => (cutp_blk (HN.out (by omega))).at)
      have c27 := lay_pip HP1.out B1.out (fun h => cutp_blk (HN.out (by omega))) (fun y h => HY.out y (List.mem_of_mem_take h)) (by have := HM.out; omega)
      go_wp2_with fail
      refine c27.mono ?_
      rintro e w2 ⟨⟨v, rfl⟩, hP2, hT2⟩
      have H2 : Hid (Pip w2 b (xs ++ ys.take m) r true wt ∧ Trn b w w2) := ⟨hP2, HT1.out.trans hT2⟩
      clear c27 hP2 hT2
      by_cases hlt : m < n
      · have i1 : (m : Int) < n := by omega
        go_wp2
        go_ret2
        exact ⟨by rw [HH.out, if_pos hlt]; rfl, H2.out.1, H2.out.2⟩
      · have i1 : ¬ (m : Int) < n := by omega
        go_wp2
        go_ret2
        exact ⟨by rw [HH.out, if_neg hlt]; rfl, H2.out.1, H2.out.2⟩
/-- What a Take gives. -/
def takeN (xs : List Int) (n : Int) : Nat := min n.toNat xs.length
def takeHow (xs : List Int) (wt : Bool) (n : Int) : Int := if 1 ≤ n ∧ xs.length = 0 ∧ wt = true then 2 else 1
theorem ring_take {w : World} {b : Nat} {xs : List Int} {r : Int} {rd wt : Bool} (h : Pip w b xs r rd wt) (k : Nat) (hk : k ≤ xs.length) (v : World) (hv : v = w.setCell ⟨b, 512, .none⟩ (.int .u32 ((r + k) % 4294967296))) : Pip v b (xs.drop k) ((r + k) % 4294967296) rd wt := by
  obtain ⟨h1, B, h2, h3⟩ := h
  have br := h2.br
  subst hv
  have hs := h2.setR ((r + k) % 4294967296) (by omega)
  have e : ((r + k) % 4294967296 + ((xs.drop k).length : Int)) % 4294967296 = (r + (xs.length : Int)) % 4294967296 := by rw [List.length_drop]; omega
  refine ⟨by rw [List.length_drop]; omega, B, by rw [e]; exact hs, fun j x hj => ?_⟩
  rw [List.getElem?_drop] at hj
  rw [← h3 _ x hj]
  congr 1
  omega
set_option maxHeartbeats 1000000 in
theorem take_pip {w : World} {b : Nat} {xs : List Int} {r : Int} {rd wt : Bool} (h : Pip w b xs r rd wt) (n : Int) :
    Calls Tryz.prog 97 #[.pointer (some ⟨b, 0, .none⟩), .int .i64 n] w fun e w' => ∃ p c, e = .returned (.tuple #[.slice p (takeN xs n) c, .int .i64 (takeHow xs wt n)]) ∧ w'.ownsRow w.heap.size 5 1 (.slice p (takeN xs n) c) (takeN xs n) (by8 (xs.take (takeN xs n))) ∧ (takeN xs n = 0 → p = none ∧ c = 0) ∧
      Pip w' b (xs.drop (takeN xs n)) ((r + takeN xs n) % 4294967296) rd wt ∧ Trn b w w' := by
  have c25 := pip_made h
  obtain ⟨k, hk⟩ : ∃ k, k = takeN xs n := ⟨_, rfl⟩
  have c28 := first_pip h n k hk
  have HK : Hid (k = min n.toNat xs.length) := hk
  have hx := h.1
  have HP : Hid (Pip w b xs r rd wt) := h
  rw [← hk]
  clear hk h
  go_enter Tryz.func97, Tryz.ntmps97
  go_wp2_with fail
  refine c25.mono ?_
  rintro e w1 ⟨rfl, hw1⟩
  obtain rfl : w = w1 := hw1.symm
  go_wp2_with fail
  refine c28.mono ?_
  rintro e w1 ⟨p, c, rfl, hO, hb, h0⟩
  have H1 : Hid (w1.ownsRow w.heap.size 5 1 (.slice p k c) k (by8 (xs.take k)) ∧ Below w.heap.size w w1 ∧ (k = 0 → p = none ∧ c = 0)) := ⟨hO, hb, h0⟩
  have HP1 : Hid (Pip w1 b xs r rd wt) := HP.out.below hb
  clear hO hb h0 c25 c28
  have c1 : w1.cell? ⟨b, 512, .none⟩ = some (.int .u32 r) := by obtain ⟨h1, B, h2, h3⟩ := HP1.out; exact h2.c1
  have c4 : w1.cell? ⟨b, 515, .none⟩ = some (.bool wt) := by obtain ⟨h1, B, h2, h3⟩ := HP1.out; exact h2.c4
  have f1 : w1.frozen? ⟨b, 512, .none⟩ = false := by obtain ⟨h1, B, h2, h3⟩ := HP1.out; exact h2.fb _
  have ew : IntKind.u32.wrap (r + k) = (r + k) % 4294967296 := by simp [IntKind.wrap, IntKind.bits, IntKind.signed]
  have ew2 : IntKind.u32.wrap k = k := by have := HK.out; simp [IntKind.wrap, IntKind.bits, IntKind.signed]; omega
  have c5 := cell_off (i := 515) c4 512 (.int .u32 ((r + k) % 4294967296)) (by decide)
  have HQ : Hid (Pip (w1.setCell ⟨b, 512, .none⟩ (.int .u32 ((r + k) % 4294967296))) b (xs.drop k) ((r + k) % 4294967296) rd wt) := ring_take HP1.out k (by have := HK.out; omega) _ rfl
  have HE : Hid ((w1.setCell ⟨b, 512, .none⟩ (.int .u32 ((r + k) % 4294967296))).ownsRow w.heap.size 5 1 (.slice p k c) k (by8 (xs.take k)) ∧ Trn b w (w1.setCell ⟨b, 512, .none⟩ (.int .u32 ((r + k) % 4294967296)))) := by
    refine ⟨?_, (Trn.ofBelow H1.out.2.1).trans (Trn.setCell _ _ _ _)⟩
    refine (Trn.setCell b 512 _ w1).own H1.out.1 (fun g hg e => ?_)
    have := own_block H1.out.1 g hg
    have := HP.out.lt
    omega
  by_cases hw : 1 ≤ n ∧ xs.length = 0 ∧ wt = true
  · obtain ⟨hn, hx0, rfl⟩ := hw
    have hk0 : k = 0 := by have := HK.out; omega
    have HH : Hid (takeHow xs true n = 2) := by unfold takeHow; rw [if_pos ⟨hn, hx0, rfl⟩]; rfl
    have hke : ((k : Int) == 0) = true := by simp [hk0]
    have K0 : Hid (k = 0) := hk0
    clear hk0 hx0
    go_wp2
    go_ret2
    obtain rfl : k = 0 := K0.out
    exact ⟨none, 0, by rw [HH.out]; rfl, World.ownsRow_nil _ _ _ _, by simp, HQ.out, HE.out.2⟩
  · have HH : Hid (takeHow xs wt n = 1) := by unfold takeHow; rw [if_neg hw]; rfl
    have fin : ∃ p' c', Ending.returned (.tuple #[.slice p k c, .int .i64 1]) = Ending.returned (.tuple #[.slice p' k c', .int .i64 (takeHow xs wt n)]) ∧ (w1.setCell ⟨b, 512, .none⟩ (.int .u32 ((r + k) % 4294967296))).ownsRow w.heap.size 5 1 (.slice p' k c') k (by8 (xs.take k)) ∧ (k = 0 → p' = none ∧ c' = 0) ∧
        Pip (w1.setCell ⟨b, 512, .none⟩ (.int .u32 ((r + k) % 4294967296))) b (xs.drop k) ((r + k) % 4294967296) rd wt ∧ Trn b w (w1.setCell ⟨b, 512, .none⟩ (.int .u32 ((r + k) % 4294967296))) := ⟨p, c, by rw [HH.out], HE.out.1, H1.out.2.2, HQ.out, HE.out.2⟩
    have FIN : Hid _ := fin
    clear fin
    by_cases hn : 1 ≤ n
    · by_cases hk0 : k = 0
      · have hwt : wt = false := by
          cases wt with
          | false => rfl
          | true => exact absurd ⟨hn, by have := HK.out; omega, rfl⟩ hw
        subst hwt
        have hke : ((k : Int) == 0) = true := by simp [hk0]
        clear hk0
        go_wp2
        go_ret2
        exact FIN.out
      · have hk1 : ¬ (k : Int) = 0 := by omega
        go_wp2
        go_ret2
        exact FIN.out
    · go_wp2
      go_ret2
      exact FIN.out
end Go.Proofs.YthdlefbaegbldaaGreatDoor
