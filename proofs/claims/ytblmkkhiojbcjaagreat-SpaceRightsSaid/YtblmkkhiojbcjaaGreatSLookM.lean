import Derived.Test.YtblmkkhiojbcjaaGreatSLoad
namespace Go.Proofs.YtblmkkhiojbcjaaGreat
open Go.RowKit
set_option linter.unusedVariables false
set_option linter.unusedSimpArgs false
/-- The frame that an address names. -/
def fi (nd : Int) : Nat := ((nd - 2147483648) / 4096).toNat
/-- Is there a node: a held frame, but the first? -/
def ndB (N : Nat) (L : List Nat) (nd : Int) : Bool := decide (nd = 2147483648 + fi nd * 4096 ∧ 1 ≤ fi nd ∧ fi nd < N ∧ fi nd ∉ L)
/-- An entry on the way along va, and where it stands. -/
def ent (B : Nat → Int) (nd va l : Int) : Int := num B (fi nd * 4096 + (ix va l).toNat * 8) 8
def st (nd va l : Int) : Int := nd + ix va l * 8
structure Pt where
  a0 : Int
  a1 : Int
  a2 : Int
  l : Int
  e : Int
  k : Int
/-- The walk down a table along va, that changes nothing. -/
def wk (N : Nat) (L : List Nat) (B : Nat → Int) (va : Int) : Nat → Int → Int → Int → Int → Int → Pt
  | 0, nd, a0, a1, a2, e => if ndB N L nd = true then ⟨st nd va 0, a1, a2, 0, ent B nd va 0, kd (ent B nd va 0) 0⟩ else ⟨a0, a1, a2, 0, e, 4⟩
  | l + 1, nd, a0, a1, a2, e => if ndB N L nd = true then
      (if kd (ent B nd va (l + 1 : Nat)) (l + 1 : Nat) = 3 then wk N L B va l (adE (ent B nd va (l + 1 : Nat))) a0 (if l = 0 then st nd va 1 else a1) (if l = 1 then st nd va 2 else a2) (ent B nd va (l + 1 : Nat))
        else ⟨a0, if l = 0 then st nd va 1 else a1, if l = 1 then st nd va 2 else a2, (l + 1 : Nat), ent B nd va (l + 1 : Nat), kd (ent B nd va (l + 1 : Nat)) (l + 1 : Nat)⟩)
    else ⟨a0, a1, a2, (l + 1 : Nat), e, 4⟩
def look (N : Nat) (L : List Nat) (B : Nat → Int) (root va : Int) : Pt := wk N L B va 2 root 0 0 0 0
def Pt.val (x : Pt) : Value := .agg #[.int .u64 x.a0, .int .u64 x.a1, .int .u64 x.a2, .int .i64 x.l, .int .u64 x.e, .int .i64 x.k]
theorem kd0 (e : Int) : kd e 0 ≠ 3 := by
  unfold kd
  split
  · omega
  split
  · omega
  split
  · omega
  split
  · split <;> omega
  · simp
theorem ndB_spec {N : Nat} {L : List Nat} {nd : Int} (h : ndB N L nd = true) : nd = 2147483648 + fi nd * 4096 ∧ 1 ≤ fi nd ∧ fi nd < N ∧ fi nd ∉ L := of_decide_eq_true h
theorem ndB_not {N : Nat} {L : List Nat} {nd : Int} (h : ndB N L nd = false) (ha : nd % 4096 = 0) (hb : nd ≠ 2147483648) : ∀ i : Nat, i < N → i ∉ L → nd ≠ 2147483648 + i * 4096 := fun i hi hL e => by
  have hf : fi nd = i := by unfold fi; omega
  have := of_decide_eq_false h
  rw [hf] at this
  exact this ⟨e, by omega, hi, hL⟩
theorem ent_b {B : Nat → Int} (hB : ∀ i, 0 ≤ B i ∧ B i < 256) (nd va l : Int) : 0 ≤ ent B nd va l ∧ ent B nd va l < 18446744073709551616 := by
  have := num_bd B hB (fi nd * 4096 + (ix va l).toNat * 8) 8
  have h2 := this.2
  refine ⟨this.1, ?_⟩
  unfold ent
  simpa using h2
section
variable {w : World} {p b m N : Nat} {B : Nat → Int} {L : List Nat}
theorem load_nd (h : Ram w p b m N B L) (nd va l : Int) (hn : ndB N L nd = true) : Calls Tryz.prog 118 #[.pointer (some ⟨p, 0, .none⟩), .int .u64 (nd + ix va l * 8), .int .i64 8] w fun e w' => e = .returned (.tuple #[.int .u64 (ent B nd va l), .bool true]) ∧ Below w.heap.size w w' := by
  obtain ⟨h1, h2, h3, h4⟩ := ndB_spec hn
  have hb := ix_b va l
  have c := load_held h (fi nd) (ix va l).toNat h3 h4 (by omega)
  rw [show (2147483648 + (fi nd : Int) * 4096 + ((ix va l).toNat : Int) * 8) = nd + ix va l * 8 by omega] at c
  exact c
theorem load_nd_no (h : Ram w p b m N B L) (nd va l : Int) (hr : 0 ≤ nd ∧ nd < 18446744073709551616) (hn : ndB N L nd = false) (ha : nd % 4096 = 0) (hb : nd ≠ 2147483648) : Calls Tryz.prog 118 #[.pointer (some ⟨p, 0, .none⟩), .int .u64 (nd + ix va l * 8), .int .i64 8] w fun e w' => e = .returned (.tuple #[.int .u64 0, .bool false]) ∧ Below w.heap.size w w' := by
  have hi := ix_b va l
  have c := load_free h nd (ix va l).toNat hr ha (by omega) (ndB_not hn ha hb)
  rw [show (nd + ((ix va l).toNat : Int) * 8) = nd + ix va l * 8 by omega] at c
  exact c
theorem meet_any (l at_ e : Int) (w : World) : Calls Tryz.prog 174 #[.agg #[], .int .i64 l, .int .u64 at_, .int .u64 e] w fun r w' => r = .returned (.tuple #[.int .u64 e, .bool true]) ∧ w' = w.alloc (.cells #[] 138) := by
  go_enter Tryz.func174, Tryz.ntmps174
  go_wp2
  go_ret2
  exact ⟨rfl, rfl⟩
end
end Go.Proofs.YtblmkkhiojbcjaaGreat
