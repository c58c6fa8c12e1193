import Derived.Test.YtacdgfojdkppmaaGreatDoorXi
import Derived.Laws.MakeOwn
import Derived.Test.YtacdgfojdkppmaaGreatDoorYn
namespace Go.Proofs.YtacdgfojdkppmaaGreatDoor
open Go.RowKit Go.Shelf
set_option linter.unusedVariables false
set_option linter.unusedSimpArgs false
set_option maxRecDepth 10000 in
set_option maxHeartbeats 4000000 in
theorem demandQ_any {W : World} {fp : Option Addr} {b o fn fc : Nat} {B : Nat → Int} (hp : 64 ≤ fn → fp = some ⟨b, o, .none⟩) (hrow : Row W b o fn B) (hB : ∀ i, 0 ≤ B i ∧ B i < 256) (hc : fn ≤ fc ∧ fc ≤ 9223372036854775807) (hn3 : fn ≤ 400000) (ha hr : Int) (hH : Hd B ha hr)
  {p : Option Addr} {n c : Nat} {xs : List Bs} (hA : Arg W p n c xs) :
  Calls Tryz.prog 7 #[.slice fp fn fc, .slice p n c] W fun e w' => e = .returned (.tuple #[.int .i64 (dmN (rdF fn B ha hr).1.2 (ePg (sgO fn B ha hr)) xs), .int .i64 (dmE (rdF fn B ha hr).1.2 xs)]) ∧ Below W.heap.size W w' := by
 have cP := readD_any hp hrow hB hc hn3 ha hr hH hA
 generalize (rdF fn B ha hr).1.2 = r at cP ⊢
 generalize ePg (sgO fn B ha hr) = eP at cP ⊢
 clear hp hrow hB hc hH hA hn3
 unfold RdP at cP
 by_cases h0 : dmE r xs ≠ 0
 ·have hN : dmN r eP xs = 0 := by simp [dmN, h0]
  rw [hN]
  generalize dmE r xs = d at h0 cP ⊢
  have hd : (d != 0) = true := by simpa using h0
  clear hN
  go_enter Tryz.func7, Tryz.ntmps7
  go_wp2_with (go_at_call 21; refine cP.mono ?_; rintro _ w1 ⟨b1, h1⟩; obtain rfl : _ = _ := (by rcases h1 with ⟨_, h⟩ | ⟨h, _⟩; exact h; exact absurd h h0); clear h1 cP)
  refine bodyPost_ret (v := .tuple #[.int .i64 0, .int .i64 d]) (by simp [results, Tryz.results7, go_sem]) rfl ⟨rfl, b1.alloc b1.size _⟩
 ·have h0 : dmE r xs = 0 := by omega
  have hN : dmN r eP xs = eP + 6 + (eP + 513) / 512 := by simp [dmN, h0]
  rw [hN, h0]
  rw [h0] at cP
  clear hN h0
  go_enter Tryz.func7, Tryz.ntmps7
  go_upto_region 2 with (go_at_call 21; refine cP.mono ?_; rintro _ w1 ⟨b1, h1⟩; rcases h1 with ⟨h, _⟩ | ⟨_, X, q, cs, E, B', et, rfl, sg, hE, hl, hp⟩; exact absurd rfl h)
  have HB : Hid (Below w1.heap.size w1 (w1.alloc (.cells #[.int .u64 et, .slice q E.length cs] 64))) := (Below.refl _ _).alloc (Nat.le_refl _) _
  have c14 := pagesQ_any (sg.below HB.out) hE hl et
  have hbd := ePg_bound E sg.gd
  rw [hp] at c14 hbd
  have HB1 : Hid (Below W.heap.size W w1) := b1
  clear sg hE hl hp cP b1
  go_wp2_with first | (go_at_call 22; refine c14.mono ?_; rintro _ w2 ⟨rfl, b2⟩) | (go_at_call 23; refine (nodes_any _ _ (by omega)).mono ?_; rintro _ _ ⟨rfl, rfl⟩)
  refine bodyPost_ret (v := .tuple #[.int .i64 (eP + 6 + (eP + 513) / 512), .int .i64 0]) ?_ rfl ⟨rfl, HB1.out.trans ((HB.out.trans (b2.mono HB.out.size)).mono HB1.out.size)⟩
  have e1 : eP + 2 + (4 + (eP + 2 + 511) / 512) = eP + 6 + (eP + 513) / 512 := by omega
  simp [results, Tryz.results7, go_sem]
  omega
def FewP (w : World) (fn n : Nat) (xs : List Bs) (e : Ending) (w' : World) : Prop := (∃ r, e = .returned (.bool r) ∧ (r = true → fn ≤ 400000 ∧ n < 100 ∧ ∀ x ∈ xs, x.length ≤ 400000)) ∧ w' = w
set_option maxRecDepth 10000 in
set_option maxHeartbeats 1000000 in
theorem few_any (fp p : Option Addr) (fn fc n c : Nat) (xs : List Bs) (w : World) (h : Tex w p n c xs) (hf : fn ≤ 140737488351232) (hn : n ≤ 140737488351232) (hx : ∀ x ∈ xs, x.length ≤ 140737488351232) :
  Calls Tryz.prog 6 #[.slice fp fn fc, .slice p n c] w (FewP w fn n xs) := by
 have HT : Hid (Tex w p n c xs) := h
 have HL : Hid (xs.length = n) := h.1
 have HX : Hid (∀ x ∈ xs, x.length ≤ 140737488351232) := hx
 have hc : n ≤ c ∧ c ≤ 9223372036854775807 := ⟨h.2.1, h.2.2.1⟩
 clear h hx
 go_enter Tryz.func6, Tryz.ntmps6
 go_wp2_with fail
 go_loopw [5, 6] (fun s k wr => ∃ i : Nat, i ≤ n ∧ i ≤ 100 ∧ k = .int .i64 i ∧ ∃ t : Int, s = .int .i64 t ∧ wr = w ∧ Hid (fn ≤ t ∧ t ≤ 140737488351232 * (i + 1) ∧ ∀ j x, j < i → xs[j]? = some x → (x.length : Int) ≤ t)) (fun _ k _ => (n - intOf k).toNat)
 case atStart => exact ⟨0, by omega, by omega, rfl, fn, rfl, rfl, by omega, by omega, fun j x hj => by omega⟩
 case round =>
  obtain ⟨i, hi, hi2, rfl, t, rfl, rfl, HR⟩ := hrel
  have r1 := HR.out.1
  have r2 := HR.out.2.1
  by_cases hlt : i < n ∧ i < 100
  ·have g0 : (i : Int) < n := by omega
   have g1 : (i : Int) < 100 := by omega
   obtain ⟨b, o, x, rfl, hxi, a0⟩ := HT.out.at hlt.1
   have hxl := HX.out x (List.mem_of_getElem? hxi)
   have HN : Hid (∀ j y, j < i + 1 → xs[j]? = some y → (y.length : Int) ≤ t + x.length) := fun j y hj hy => by
    rcases Nat.lt_or_ge j i with e | e
    ·have := HR.out.2.2 j y e hy; omega
    ·obtain rfl : j = i := by omega
     rw [hxi] at hy
     injection hy with e
     subst e
     omega
   clear hxi
   go_wp2_with fail
   exact ⟨⟨i + 1, by omega, by omega, rfl, t + x.length, rfl, trivial, by omega, by omega, HN.out⟩, by simp only [intOf]; omega⟩
  ·by_cases hn2 : i < n
   ·have g0 : (i : Int) < n := by omega
    obtain rfl : i = 100 := by omega
    have g2 : ¬ ((n : Int) < 100) := by omega
    go_wp2_with fail
    all_goals go_ret
    all_goals exact ⟨⟨false, rfl, fun h => by cases h⟩, rfl⟩
   ·obtain rfl : i = n := by omega
    have HJ : Hid (t ≤ 400000 → (i : Int) < 100 → fn ≤ 400000 ∧ i < 100 ∧ ∀ x ∈ xs, x.length ≤ 400000) := fun h1 h2 => ⟨by omega, by omega, fun x hx => by
     obtain ⟨j, hj⟩ := List.mem_iff_getElem?.1 hx
     have hj2 : j < i := by rw [← HL.out]; exact (List.getElem?_eq_some_iff.1 hj).1
     have := HR.out.2.2 j x hj2 hj
     omega⟩
    by_cases ht : t ≤ 400000
    ·go_wp2_with fail
     go_ret
     exact ⟨⟨_, rfl, fun h => HJ.out ht (of_decide_eq_true h)⟩, rfl⟩
    ·go_wp2_with fail
     go_ret
     exact ⟨⟨false, rfl, fun h => by cases h⟩, rfl⟩
theorem str_info : ∃ i z, Tryz.prog.info? 9 = some i ∧ i.zero = some z ∧ i.size = 1 ∧ i.bytes = 16 ∧ z.cells.size = 1 := info_of 9 1 16 (by kernel_rfl) (by kernel_rfl)
def mark : Bs := [109, 97, 114, 107]
/-- A list of one's own, a mark behind its end. -/
def LenT (w : World) (X g c : Nat) (xs : List Bs) : Prop := w.ownsRow X 9 1 (.slice (some ⟨g, 0, .none⟩) (xs.length + 1) c) (xs.length + 1) ((xs ++ [mark]).map sv)
end Go.Proofs.YtacdgfojdkppmaaGreatDoor
namespace Go.Proofs.YtacdgfojdkppmaaGreatDoor
open Go.RowKit Go.Shelf
set_option linter.unusedVariables false
set_option linter.unusedSimpArgs false
/-- exec's own table, as a world has it. -/
structure Laid3 (w : World) : Prop where
 c0 : w.cell? ⟨3, 0, .none⟩ = some (.int .u32 4)
 c1 : w.cell? ⟨3, 1, .none⟩ = some (.int .u64 2)
 c2 : w.cell? ⟨3, 2, .none⟩ = some (.int .u32 2)
 c3 : w.cell? ⟨3, 3, .none⟩ = some (.int .u64 4)
 c4 : w.cell? ⟨3, 4, .none⟩ = some (.int .u32 1)
 c5 : w.cell? ⟨3, 5, .none⟩ = some (.int .u64 8)
theorem Laid3.below {w w' : World} (h : Laid3 w) (b : Below w.heap.size w w') : Laid3 w' :=
 have hl : 3 < w.heap.size := lt_of_cell h.c0
 ⟨(b.cell (p := ⟨3, 0, .none⟩) hl).trans h.c0, (b.cell (p := ⟨3, 1, .none⟩) hl).trans h.c1, (b.cell (p := ⟨3, 2, .none⟩) hl).trans h.c2, (b.cell (p := ⟨3, 3, .none⟩) hl).trans h.c3, (b.cell (p := ⟨3, 4, .none⟩) hl).trans h.c4, (b.cell (p := ⟨3, 5, .none⟩) hl).trans h.c5⟩
/-- A segment's rights, row by row. -/
def rga (fl : Int) (i : Nat) : Int := (if 1 ≤ i ∧ (fl = 4 ∨ fl = 5 ∨ fl = 6 ∨ fl = 7) then 2 else 0) + (if 2 ≤ i ∧ (fl = 6 ∨ fl = 7) then 4 else 0) + (if 3 ≤ i ∧ (fl = 1 ∨ fl = 5 ∨ fl = 7) then 8 else 0)
theorem rga_rgt {fl : Int} (h : fl = 1 ∨ fl = 4 ∨ fl = 5 ∨ fl = 6 ∨ fl = 7) : Rm.rgt (rga fl 3) := by
 unfold Rm.rgt
 rcases h with rfl | rfl | rfl | rfl | rfl <;> decide
theorem ix0 (w : World) : (Instr.index 209 (.agg #[.int .u32 4, .int .u64 2, .int .u32 2, .int .u64 4, .int .u32 1, .int .u64 8]) (.int .i64 0)).run Tryz.prog w = .ok (.agg #[.int .u32 4, .int .u64 2]) w := by kernel_rfl
theorem ix1 (w : World) : (Instr.index 209 (.agg #[.int .u32 4, .int .u64 2, .int .u32 2, .int .u64 4, .int .u32 1, .int .u64 8]) (.int .i64 1)).run Tryz.prog w = .ok (.agg #[.int .u32 2, .int .u64 4]) w := by kernel_rfl
theorem ix2 (w : World) : (Instr.index 209 (.agg #[.int .u32 4, .int .u64 2, .int .u32 2, .int .u64 4, .int .u32 1, .int .u64 8]) (.int .i64 2)).run Tryz.prog w = .ok (.agg #[.int .u32 1, .int .u64 8]) w := by kernel_rfl
set_option maxRecDepth 4000 in
set_option maxHeartbeats 2000000 in
theorem rightsOf_any {w : World} (h : Laid3 w) (fl : Int) (hf : fl = 1 ∨ fl = 4 ∨ fl = 5 ∨ fl = 6 ∨ fl = 7) : Calls Tryz.prog 110 #[.int .u32 fl] w fun e w' => e = .returned (.int .u64 (rga fl 3)) ∧ Below w.heap.size w w' := by
 obtain ⟨c0, c1, c2, c3, c4, c5⟩ := h
 have x0 := ix0
 have x1 := ix1
 have x2 := ix2
 rcases hf with rfl | rfl | rfl | rfl | rfl
 all_goals
  go_enter Tryz.func110, Tryz.ntmps110
  go_wp2_with fail
  clear c0 c1 c2 c3 c4 c5
 ·go_loopw [3, 7] (fun a k wr => ∃ i : Nat, i ≤ 3 ∧ k = .int .i64 i ∧ a = .int .u64 (rga 1 i) ∧ Hid (Below w.heap.size w wr)) (fun _ k _ => (3 - intOf k).toNat)
  case atStart => exact ⟨0, by omega, rfl, by rw [show rga 1 0 = 0 by decide], Below.refl _ _⟩
  case round =>
   obtain ⟨i, hi, rfl, rfl, HB⟩ := hrel
   rcases (show i = 0 ∨ i = 1 ∨ i = 2 ∨ i = 3 by omega) with rfl | rfl | rfl | rfl
   ·rw [show rga 1 0 = 0 by decide]
    go_wp2_with fail
    exact ⟨⟨1, by omega, rfl, (congrArg (Value.int .u64) (by decide)), HB.out.alloc HB.out.size _⟩, by simp only [intOf]; omega⟩
   ·rw [show rga 1 1 = 0 by decide]
    go_wp2_with fail
    exact ⟨⟨2, by omega, rfl, (congrArg (Value.int .u64) (by decide)), HB.out.alloc HB.out.size _⟩, by simp only [intOf]; omega⟩
   ·rw [show rga 1 2 = 0 by decide]
    go_wp2_with fail
    exact ⟨⟨3, by omega, rfl, (congrArg (Value.int .u64) (by decide)), HB.out.alloc HB.out.size _⟩, by simp only [intOf]; omega⟩
   ·rw [show rga 1 3 = 8 by decide]
    go_wp2_with fail
    go_ret
    exact ⟨rfl, HB.out⟩
 ·go_loopw [3, 7] (fun a k wr => ∃ i : Nat, i ≤ 3 ∧ k = .int .i64 i ∧ a = .int .u64 (rga 4 i) ∧ Hid (Below w.heap.size w wr)) (fun _ k _ => (3 - intOf k).toNat)
  case atStart => exact ⟨0, by omega, rfl, by rw [show rga 4 0 = 0 by decide], Below.refl _ _⟩
  case round =>
   obtain ⟨i, hi, rfl, rfl, HB⟩ := hrel
   rcases (show i = 0 ∨ i = 1 ∨ i = 2 ∨ i = 3 by omega) with rfl | rfl | rfl | rfl
   ·rw [show rga 4 0 = 0 by decide]
    go_wp2_with fail
    exact ⟨⟨1, by omega, rfl, (congrArg (Value.int .u64) (by decide)), HB.out.alloc HB.out.size _⟩, by simp only [intOf]; omega⟩
   ·rw [show rga 4 1 = 2 by decide]
    go_wp2_with fail
    exact ⟨⟨2, by omega, rfl, (congrArg (Value.int .u64) (by decide)), HB.out.alloc HB.out.size _⟩, by simp only [intOf]; omega⟩
   ·rw [show rga 4 2 = 2 by decide]
    go_wp2_with fail
    exact ⟨⟨3, by omega, rfl, (congrArg (Value.int .u64) (by decide)), HB.out.alloc HB.out.size _⟩, by simp only [intOf]; omega⟩
   ·rw [show rga 4 3 = 2 by decide]
    go_wp2_with fail
    go_ret
    exact ⟨rfl, HB.out⟩
 ·go_loopw [3, 7] (fun a k wr => ∃ i : Nat, i ≤ 3 ∧ k = .int .i64 i ∧ a = .int .u64 (rga 5 i) ∧ Hid (Below w.heap.size w wr)) (fun _ k _ => (3 - intOf k).toNat)
  case atStart => exact ⟨0, by omega, rfl, by rw [show rga 5 0 = 0 by decide], Below.refl _ _⟩
  case round =>
   obtain ⟨i, hi, rfl, rfl, HB⟩ := hrel
   rcases (show i = 0 ∨ i = 1 ∨ i = 2 ∨ i = 3 by omega) with rfl | rfl | rfl | rfl
   ·rw [show rga 5 0 = 0 by decide]
    go_wp2_with fail
    exact ⟨⟨1, by omega, rfl, (congrArg (Value.int .u64) (by decide)), HB.out.alloc HB.out.size _⟩, by simp only [intOf]; omega⟩
   ·rw [show rga 5 1 = 2 by decide]
    go_wp2_with fail
    exact ⟨⟨2, by omega, rfl, (congrArg (Value.int .u64) (by decide)), HB.out.alloc HB.out.size _⟩, by simp only [intOf]; omega⟩
   ·rw [show rga 5 2 = 2 by decide]
    go_wp2_with fail
    exact ⟨⟨3, by omega, rfl, (congrArg (Value.int .u64) (by decide)), HB.out.alloc HB.out.size _⟩, by simp only [intOf]; omega⟩
   ·rw [show rga 5 3 = 10 by decide]
    go_wp2_with fail
    go_ret
    exact ⟨rfl, HB.out⟩
 ·go_loopw [3, 7] (fun a k wr => ∃ i : Nat, i ≤ 3 ∧ k = .int .i64 i ∧ a = .int .u64 (rga 6 i) ∧ Hid (Below w.heap.size w wr)) (fun _ k _ => (3 - intOf k).toNat)
  case atStart => exact ⟨0, by omega, rfl, by rw [show rga 6 0 = 0 by decide], Below.refl _ _⟩
  case round =>
   obtain ⟨i, hi, rfl, rfl, HB⟩ := hrel
   rcases (show i = 0 ∨ i = 1 ∨ i = 2 ∨ i = 3 by omega) with rfl | rfl | rfl | rfl
   ·rw [show rga 6 0 = 0 by decide]
    go_wp2_with fail
    exact ⟨⟨1, by omega, rfl, (congrArg (Value.int .u64) (by decide)), HB.out.alloc HB.out.size _⟩, by simp only [intOf]; omega⟩
   ·rw [show rga 6 1 = 2 by decide]
    go_wp2_with fail
    exact ⟨⟨2, by omega, rfl, (congrArg (Value.int .u64) (by decide)), HB.out.alloc HB.out.size _⟩, by simp only [intOf]; omega⟩
   ·rw [show rga 6 2 = 6 by decide]
    go_wp2_with fail
    exact ⟨⟨3, by omega, rfl, (congrArg (Value.int .u64) (by decide)), HB.out.alloc HB.out.size _⟩, by simp only [intOf]; omega⟩
   ·rw [show rga 6 3 = 6 by decide]
    go_wp2_with fail
    go_ret
    exact ⟨rfl, HB.out⟩
 ·go_loopw [3, 7] (fun a k wr => ∃ i : Nat, i ≤ 3 ∧ k = .int .i64 i ∧ a = .int .u64 (rga 7 i) ∧ Hid (Below w.heap.size w wr)) (fun _ k _ => (3 - intOf k).toNat)
  case atStart => exact ⟨0, by omega, rfl, by rw [show rga 7 0 = 0 by decide], Below.refl _ _⟩
  case round =>
   obtain ⟨i, hi, rfl, rfl, HB⟩ := hrel
   rcases (show i = 0 ∨ i = 1 ∨ i = 2 ∨ i = 3 by omega) with rfl | rfl | rfl | rfl
   ·rw [show rga 7 0 = 0 by decide]
    go_wp2_with fail
    exact ⟨⟨1, by omega, rfl, (congrArg (Value.int .u64) (by decide)), HB.out.alloc HB.out.size _⟩, by simp only [intOf]; omega⟩
   ·rw [show rga 7 1 = 2 by decide]
    go_wp2_with fail
    exact ⟨⟨2, by omega, rfl, (congrArg (Value.int .u64) (by decide)), HB.out.alloc HB.out.size _⟩, by simp only [intOf]; omega⟩
   ·rw [show rga 7 2 = 6 by decide]
    go_wp2_with fail
    exact ⟨⟨3, by omega, rfl, (congrArg (Value.int .u64) (by decide)), HB.out.alloc HB.out.size _⟩, by simp only [intOf]; omega⟩
   ·rw [show rga 7 3 = 14 by decide]
    go_wp2_with fail
    go_ret
    exact ⟨rfl, HB.out⟩
end Go.Proofs.YtacdgfojdkppmaaGreatDoor
namespace Go.Proofs.YtacdgfojdkppmaaGreatDoor
open Go.RowKit Go.Shelf
set_option linter.unusedVariables false
set_option linter.unusedSimpArgs false
/-- The pages below a segment's end. -/
def pgs (s : Sg) : Int := (s.va + s.mem + 4095) / 4096
/-- What may be done with a page. -/
def rgP (S : List Sg) (pg : Int) : Int := match S.find? (fun s => decide (pg < pgs s)) with | some s => rga s.fl 3 | none => 6
theorem rgP_hit {S : List Sg} {pg : Int} {i : Nat} {x : Sg} (hx : S[i]? = some x) (hb : ∀ j y, j < i → S[j]? = some y → ¬ pg < pgs y) (hp : pg < pgs x) : rgP S pg = rga x.fl 3 := by
 unfold rgP
 have : S.find? (fun s => decide (pg < pgs s)) = some x := by
  obtain ⟨hl, he⟩ := List.getElem?_eq_some_iff.1 hx
  rw [List.find?_eq_some_iff_getElem]
  exact ⟨by simpa using hp, i, hl, he, fun j hj => by
   have := hb j S[j] hj (List.getElem?_eq_getElem (by omega))
   simpa using this⟩
 rw [this]
theorem rgP_miss {S : List Sg} {pg : Int} (hb : ∀ (j : Nat) y, S[j]? = some y → ¬ pg < pgs y) : rgP S pg = 6 := by
 unfold rgP
 have : S.find? (fun s => decide (pg < pgs s)) = none := by
  rw [List.find?_eq_none]
  intro y hy
  obtain ⟨j, hj⟩ := List.mem_iff_getElem?.1 hy
  simpa using hb j y hj
 rw [this]
set_option maxRecDepth 4000 in
set_option maxHeartbeats 2000000 in
theorem rights_any {w : World} {X c : Nat} {q : Option Addr} {E : List (Sg × Value)} {B : Nat → Int} (h : Segs w X (.slice q E.length c) E B) (hL : Laid3 w) (hl : E.length ≤ 8) (en sp : Int) (dp : Option Addr) (dn dc : Nat) (pg : Int) :
  Calls Tryz.prog 62 #[.agg #[.int .u64 en, .slice q E.length c, .slice dp dn dc, .int .u64 sp], .int .i64 pg] w fun e w' => e = .returned (.int .u64 (rgP (E.map (·.1)) pg)) ∧ Below w.heap.size w w' := by
 obtain ⟨q', c', e', hc1, hc2, hq⟩ := own_form h.own
 cases e'
 have HS : Hid (Segs w X (.slice q E.length c) E B ∧ Laid3 w) := ⟨h, hL⟩
 obtain ⟨w1, hw1⟩ : ∃ w1, w1 = w.alloc (.cells #[.int .u64 en, .slice q E.length c, .slice dp dn dc, .int .u64 sp] 75) := ⟨_, rfl⟩
 have b1 : Below w.heap.size w w1 := by rw [hw1]; exact (Below.refl _ _).alloc (Nat.le_refl _) _
 have k1 : w1.cell? ⟨w.heap.size, 1, .none⟩ = some (.slice q E.length c) := by rw [hw1]; simp
 have HB1 : Hid (Below w.heap.size w w1) := b1
 clear h hL b1
 go_enter Tryz.func62, Tryz.ntmps62
 go_upto_region 1 with fail
 rw [← hw1]
 clear hw1
 go_wp2_with fail
 clear k1
 go_loopw [11] (fun a wr => ∃ i : Nat, i ≤ E.length ∧ a = .int .i64 i ∧ Hid ((∀ j y, j < i → (E.map (·.1))[j]? = some y → ¬ pg < pgs y) ∧ Below w.heap.size w wr)) (fun a _ => (E.length - intOf a).toNat)
 case atStart => exact ⟨0, by omega, rfl, fun j y hj => by omega, HB1.out⟩
 case round =>
  obtain ⟨i, hi, rfl, HR⟩ := hrel
  by_cases hlt : i < E.length
  ·have g0 : (i : Int) < E.length := by omega
   obtain ⟨x, hx⟩ : ∃ x, E[i]? = some x := ⟨E[i], List.getElem?_eq_getElem hlt⟩
   have HS1 := HS.out.1.below HR.out.2
   obtain ⟨f0, f1, f2, f3⟩ := flatE_get E _ x hx
   obtain ⟨g, rfl, a0⟩ := own_cell HS1.own f0 (by omega) (by omega)
   obtain ⟨g1, e1, a1⟩ := own_cell HS1.own f1 (by omega) (by omega)
   obtain ⟨g2, e2, a2⟩ := own_cell HS1.own f2 (by omega) (by omega)
   obtain ⟨g3, e3, a3⟩ := own_cell HS1.own f3 (by omega) (by omega)
   simp only [Option.some.injEq, Addr.mk.injEq, and_true] at e1 e2 e3
   subst e1 e2 e3
   have hgd := HS1.gd x (List.mem_of_getElem? hx)
   obtain ⟨ldq, ldc, hld, _⟩ := own_form (HS1.dat x (List.mem_of_getElem? hx))
   rw [hld] at a2
   have c109 := fun W => below_any x.1.va x.1.fl x.1.mem ldq x.1.sz ldc W hgd.v hgd.m hgd.e
   have hxm : (E.map (·.1))[i]? = some x.1 := by rw [List.getElem?_map, hx]; rfl
   have HX : Hid ((E.map (·.1))[i]? = some x.1 ∧ (x.1.fl = 1 ∨ x.1.fl = 4 ∨ x.1.fl = 5 ∨ x.1.fl = 6 ∨ x.1.fl = 7)) := ⟨hxm, hgd.f⟩
   have hpg : (x.1.va + x.1.mem + 4095) / 4096 = pgs x.1 := rfl
   rw [hpg] at c109
   clear f0 f1 f2 f3 HS1 hgd hq hxm hx hld hpg
   generalize hpv : pgs x.1 = pv at c109
   have HV : Hid (pgs x.1 = pv) := hpv
   clear hpv
   have HA : Hid (Below w.heap.size w (wr.alloc (.cells #[.int .u64 x.1.va, .int .u32 x.1.fl, .slice ldq x.1.sz ldc, .int .u64 x.1.mem] 61))) := HR.out.2.alloc HR.out.2.size _
   by_cases hp : pg < pv
   ·have HH : Hid (rgP (E.map (·.1)) pg = rga x.1.fl 3) := rgP_hit HX.out.1 (fun j y hj hy => HR.out.1 j y hj hy) (by rw [HV.out]; exact hp)
    go_upto_region 5 with (go_at_call 109; refine (c109 _).mono ?_; rintro _ w2 ⟨rfl, b2⟩; have H2 : Hid (Below w.heap.size w w2 ∧ w2.cell? ⟨wr.heap.size, 1, .none⟩ = some (.int .u32 x.1.fl)) := ⟨HA.out.trans (b2.mono HA.out.size), (b2.cell (p := ⟨wr.heap.size, 1, .none⟩) (by simp)).trans (by simp)⟩; clear b2)
    have k2 := H2.out.2
    have c110 := rightsOf_any (HS.out.2.below H2.out.1) x.1.fl HX.out.2
    go_wp2_with (go_at_call 110; refine c110.mono ?_; rintro _ w3 ⟨rfl, b3⟩)
    go_ret
    exact ⟨by rw [HH.out]; rfl, H2.out.1.trans (b3.mono H2.out.1.size)⟩
   ·go_wp2_with (go_at_call 109; refine (c109 _).mono ?_; rintro _ w2 ⟨rfl, b2⟩; have H2 : Hid (Below w.heap.size w w2) := HA.out.trans (b2.mono HA.out.size); clear b2)
    refine ⟨⟨i + 1, by omega, rfl, fun j y hj hy => ?_, H2.out⟩, by simp only [intOf]; omega⟩
    rcases Nat.lt_or_ge j i with e | e
    ·exact Int.not_lt.2 (HR.out.1 j y e hy)
    ·obtain rfl : j = i := by omega
     rw [HX.out.1] at hy
     injection hy with hy
     rw [← hy, HV.out]
     exact Int.not_lt.2 hp
  ·obtain rfl : i = E.length := by omega
   have HM : Hid (rgP (E.map (·.1)) pg = 6) := rgP_miss (fun j y hy => HR.out.1 j y (by have := (List.getElem?_eq_some_iff.1 hy).1; rw [List.length_map] at this; exact this) hy)
   go_wp2_with fail
   go_ret
   exact ⟨by rw [HM.out]; rfl, HR.out.2⟩
end Go.Proofs.YtacdgfojdkppmaaGreatDoor
