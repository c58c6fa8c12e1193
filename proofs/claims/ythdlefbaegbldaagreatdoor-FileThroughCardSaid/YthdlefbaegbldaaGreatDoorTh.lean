import Derived.Test.YthdlefbaegbldaaGreatDoorTg
namespace Go.Proofs.YthdlefbaegbldaaGreatDoor
open Go.RowKit Go.Shelf
set_option linter.unusedVariables false
set_option linter.unusedSimpArgs false
set_option maxRecDepth 100000
theorem pkx_bd (z : Int) (l : Bs) : ∀ y ∈ pkx z l, 0 ≤ y ∧ y < 256 := by
  intro y hy
  simp only [pkx, List.mem_cons, List.mem_map] at hy
  rcases hy with rfl | rfl | ⟨b, _, rfl⟩
  · omega
  · omega
  · have : b.toNat < 256 := b.toNat_lt
    omega
theorem fold_ent (z : Int) (l : Bs) (hl : l.length = 14) : (List.foldl (fun (cs : Array Value) (x : Value × Nat) => cs.setIfInBounds (1 + x.snd) x.fst) #[.int .i64 z, .int .u8 0, .int .u8 0, .int .u8 0, .int .u8 0, .int .u8 0, .int .u8 0, .int .u8 0, .int .u8 0, .int .u8 0, .int .u8 0, .int .u8 0, .int .u8 0, .int .u8 0, .int .u8 0] (u8s l).zipIdx) = (ent z l).toArray := by
  obtain ⟨a0, a1, a2, a3, a4, a5, a6, a7, a8, a9, a10, a11, a12, a13, rfl⟩ : ∃ a0 a1 a2 a3 a4 a5 a6 a7 a8 a9 a10 a11 a12 a13, l = [a0, a1, a2, a3, a4, a5, a6, a7, a8, a9, a10, a11, a12, a13] := by
    match l, hl with
    | [a0, a1, a2, a3, a4, a5, a6, a7, a8, a9, a10, a11, a12, a13], _ => exact ⟨a0, a1, a2, a3, a4, a5, a6, a7, a8, a9, a10, a11, a12, a13, rfl⟩
  kernel_rfl
theorem ownsB {w w' : World} {X e s n : Nat} {v : Value} {xs : List Value} (h : w.ownsRow X e s v n xs) (k : Below w.heap.size w w') : w'.ownsRow X e s v n xs :=
  (Trn.ofBelow (b := w.heap.size) k).own h (fun g hg => by have := own_ltC h g hg; omega)
/-- The first two entries of a directory. -/
def dots (k z : Nat) : List Int := pkx k (padb [46]) ++ pkx z (padb [46, 46])
theorem dots_len (k z : Nat) : (dots k z).length = 32 := by
  unfold dots
  rw [List.length_append, pkx_len, pkx_len, padb_len, padb_len]
set_option maxHeartbeats 400000 in
theorem putDots_any {w : World} {tb p bb m N : Nat} {typ major minor links refs : Int} {B : Nat → Int} {L : List Nat} (k z : Nat) (hk : k < 200) (hz : z < 65536) (h : PuS w tb (1 + 70 * k) p bb m N typ major minor links refs 0 [] B L) (hL : 1 ≤ L.length) :
    Calls Tryz.prog 51 #[.pointer (some ⟨tb, 0, .none⟩), .int .i64 k, .int .i64 z] w (PutP w tb (1 + 70 * k) p bb m N typ major minor links refs 0 [] B L 0 (dots k z)) := by
  unfold dots
  have hp1 := padb_len [46]
  have hp2 := padb_len [46, 46]
  have pa1 := fun W => pad_any [46] W
  have pa2 := fun W => pad_any [46, 46] W
  generalize padb [46] = d1 at *
  generalize padb [46, 46] = d2 at *
  have l1 : (pkx k d1).length = 16 := by rw [pkx_len, hp1]
  have l2 : (pkx z d2).length = 16 := by rw [pkx_len, hp2]
  have by1 := pkx_bd k d1
  have by2 := pkx_bd z d2
  have b1 := fun W => bytes21_any (k : Int) d1 W hp1 (by omega)
  have b2 := fun W => bytes21_any (z : Int) d2 W hp2 (by omega)
  have Q1 : Hid ((List.foldl (fun (cs : Array Value) (x : Value × Nat) => cs.setIfInBounds (1 + x.snd) x.fst) #[.int .i64 ((k : Nat) : Int), .int .u8 0, .int .u8 0, .int .u8 0, .int .u8 0, .int .u8 0, .int .u8 0, .int .u8 0, .int .u8 0, .int .u8 0, .int .u8 0, .int .u8 0, .int .u8 0, .int .u8 0, .int .u8 0] (u8s d1).zipIdx) = (ent k d1).toArray) := fold_ent (k : Int) d1 hp1
  have Q2 : Hid ((List.foldl (fun (cs : Array Value) (x : Value × Nat) => cs.setIfInBounds (1 + x.snd) x.fst) #[.int .i64 ((z : Nat) : Int), .int .u8 0, .int .u8 0, .int .u8 0, .int .u8 0, .int .u8 0, .int .u8 0, .int .u8 0, .int .u8 0, .int .u8 0, .int .u8 0, .int .u8 0, .int .u8 0, .int .u8 0, .int .u8 0] (u8s d2).zipIdx) = (ent z d2).toArray) := fold_ent (z : Int) d2 hp2
  generalize pkx k d1 = x1 at *
  generalize pkx z d2 = x2 at *
  have HP : Hid (PuS w tb (1 + 70 * k) p bb m N typ major minor links refs 0 [] B L) := h
  have HBD : Hid ((∀ y ∈ x1, 0 ≤ y ∧ y < 256) ∧ ∀ y ∈ x2, 0 ≤ y ∧ y < 256) := ⟨by1, by2⟩
  have HLL : Hid (x1.length = 16 ∧ x2.length = 16) := ⟨l1, l2⟩
  have hs1 : (u8s d1).length = 14 := by rw [u8s_len, hp1]
  have hs2 : (u8s d2).length = 14 := by rw [u8s_len, hp2]
  clear h by1 by2 hp1 hp2
  have HPUT : Hid (∀ (W : World) (q : Option Addr) (c : Nat), Below w.heap.size w W → Byt W q 32 c (x1 ++ x2) → (∀ a, q = some a → w.heap.size ≤ a.block) → Calls Tryz.prog 73 #[.pointer (some ⟨tb, 0, .none⟩), .pointer (some ⟨tb, 1 + k * 70, .none⟩), .int .i64 0, .slice q 32 c] W (PutP W tb (1 + 70 * k) p bb m N typ major minor links refs 0 [] B L 0 (x1 ++ x2))) := fun W q c hW hB hq => by
    rw [Nat.mul_comm k 70]
    refine put_any (HP.out.below hW) (by simp [nbl]) 0 hB (fun y hy => ?_) (fun _ a ha e => ?_) (Nat.le_refl _) (by rw [List.length_append, HLL.out.1, HLL.out.2]; omega) (by rw [List.length_append, HLL.out.1, HLL.out.2]; simp [nbl]; omega)
    · rcases List.mem_append.1 hy with hy | hy
      · exact HBD.out.1 y hy
      · exact HBD.out.2 y hy
    · have := hq a ha
      have := HP.out.tm _ e
      omega
  go_enter Tryz.func51, Tryz.ntmps51
  go_wp2_with fail
  refine (pa1 w).mono ?_
  rintro _ W1 ⟨rfl, hW1⟩
  have H1 : Hid (Below w.heap.size w W1) := hW1
  clear hW1 pa1
  go_wp2_with fail
  rw [Q1.out]
  refine (b1 W1).mono ?_
  rintro _ W2 ⟨g1, c1, rfl, o1, hW2⟩
  rw [l1] at o1 ⊢
  have S2 : Hid (W1.heap.size ≤ W2.heap.size) := hW2.size
  have H2 : Hid (W2.ownsRow W1.heap.size 5 1 (.slice g1 16 c1) 16 (by8 x1) ∧ Below w.heap.size w W2) := ⟨o1, H1.out.trans (hW2.mono H1.out.size)⟩
  clear b1 o1 hW2
  go_wp2_with fail
  refine (pa2 W2).mono ?_
  rintro _ W3 ⟨rfl, hW3⟩
  have S3 : Hid (W1.heap.size ≤ W3.heap.size) := Nat.le_trans S2.out hW3.size
  have H3 : Hid (W3.ownsRow W1.heap.size 5 1 (.slice g1 16 c1) 16 (by8 x1) ∧ Below w.heap.size w W3) := ⟨ownsB H2.out.1 hW3, H2.out.2.trans (hW3.mono H2.out.2.size)⟩
  clear hW3 pa2
  go_wp2_with fail
  rw [Q2.out]
  refine (b2 W3).mono ?_
  rintro _ W4 ⟨g2, c2, rfl, o2, hW4⟩
  rw [l2] at o2 ⊢
  have z1 : W1.heap.size ≤ W4.heap.size := Nat.le_trans S3.out hW4.size
  have H4 : Hid (W4.ownsRow W1.heap.size 5 1 (.slice g1 16 c1) 16 (by8 x1) ∧ W4.ownsRow W3.heap.size 5 1 (.slice g2 16 c2) 16 (by8 x2) ∧ Below w.heap.size w W4) := ⟨ownsB H3.out.1 hW4, o2, H3.out.2.trans (hW4.mono H3.out.2.size)⟩
  have B2 : Hid (Byt W4 g2 16 c2 x2) := byt_own H4.out.2.1
  clear b2 o2 hW4 l1 l2
  go_wp2_with (first | (at_builtin; refine wpList_app rfl _ _ rfl W1.heap.size (.slice g1 16 c1) 16 x1 rfl g2 16 c2 x2 rfl H4.out.1 B2.out ?c4 z1 ?_) | go_in)
  case c4 => omega
  intro v5 W5 own5 grow5 sof5
  obtain ⟨g5, c5, rfl⟩ := one_slice own5
  have H5 : Hid (Below w.heap.size w W5 ∧ Byt W5 g5 32 c5 (x1 ++ x2) ∧ ∀ a, g5 = some a → w.heap.size ≤ a.block) := by
    refine ⟨H4.out.2.2.grown grow5 H4.out.2.2.size (fun r hr => ?_), ?_, fun a ha => ?_⟩
    · have := own_block H4.out.1 r hr
      have := H1.out.size
      omega
    · have := byt_own own5
      simpa using this
    · have h1 := own_block own5 a.block (by rw [ha]; rfl)
      have := H1.out.size
      omega
  clear own5 grow5 sof5
  have cp := HPUT.out W5 g5 c5 H5.out.1 H5.out.2.1 H5.out.2.2
  go_wp2_with fail
  refine cp.mono ?_
  rintro _ X ⟨⟨v, rfl⟩, hX1, hX2, hX3⟩
  have HX : Hid (PutP w tb (1 + 70 * k) p bb m N typ major minor links refs 0 [] B L 0 (x1 ++ x2) (.returned v) X) := ⟨⟨_, rfl⟩, hX1, (ChS.ofBelow H5.out.1).trans hX2, fun j hj => (hX3 j hj).trans (H5.out.1.cell (p := ⟨tb, j, .none⟩) HP.out.ind.lt)⟩
  clear hX1 hX2 hX3 cp
  go_wp2
  go_end0
  exact ⟨⟨_, rfl⟩, HX.out.2⟩
end Go.Proofs.YthdlefbaegbldaaGreatDoor
