import Derived.Test.YtacdgfojdkppmaaGreatDoorBad
import Derived.Test.YtacdgfojdkppmaaGreatDoorSKind
import Derived.Laws.Cover3
import Derived.Deep.QuietTactic
import Derived.BigQuiet
import Derived.Deep.RegionLawGrows
import Derived.Deep.RegionHeld3
import Derived.RangeFuncNested
import Derived.RangeFuncBound
import Derived.RangeFuncCalls
import Derived.RangeFuncLeaves
import Derived.RangeFuncFrom
import Derived.Shelf.Abstract
import Derived.Shelf.RegionOpen
import Derived.OwnWalkIn
import Derived.TacticsInMore
import Derived.LoopNIn
import Derived.LoopIn
import Derived.Deep.DeepCutAuto
namespace Go.Proofs.YtacdgfojdkppmaaGreatDoor.Rm
open Go.RowKit
set_option linter.unusedVariables false
set_option linter.unusedSimpArgs false
section
variable {w : World} {p b m N : Nat} {B : Nat → Int} {L : List Nat}
theorem hdL_in {f : Nat} (hf : f < N) : hdL N L (2147483648 + f * 4096) = !decide (f ∈ L) := by
 have h := hdL_addr N L f hf
 exact h
/-- Load of eight bytes anywhere. -/
theorem load_any (h : Ram w p b m N B L) (pa : Int) (hp : 0 ≤ pa ∧ pa < 18446744073709551616) : Calls Tryz.prog 139 #[.pointer (some ⟨p, 0, .none⟩), .int .u64 pa, .int .i64 8] w fun e w' => (∃ x ok, e = .returned (.tuple #[.int .u64 x, .bool ok]) ∧ 0 ≤ x ∧ x < 18446744073709551616) ∧ Below w.heap.size w w' := by
 have n2 := h.mem.n2
 by_cases ho : 2147483648 ≤ pa ∧ pa - 2147483648 + 8 ≤ 4096 * N
 ·obtain ⟨o, rfl⟩ : ∃ o : Nat, pa = 2147483648 + o := ⟨(pa - 2147483648).toNat, by omega⟩
  by_cases hh : ∀ f : Nat, o / 4096 ≤ f → f * 4096 < o + 8 → hdL N L (2147483648 + f * 4096) = true
  ·refine (load_ok h.mem o 8 (by omega) (by omega) hh).mono ?_
   rintro e w' ⟨he, hb⟩
   have nb := num_bd B h.mem.bb o 8
   exact ⟨⟨_, _, he, nb.1, by have := nb.2; simpa using this⟩, hb⟩
  ·simp only [Classical.not_forall] at hh
   obtain ⟨f, h1, h2, h3⟩ := hh
   have h3' : hdL N L (2147483648 + f * 4096) = false := by simpa using h3
   refine (load_no _ 8 (access_no _ 8 0 false (reach_hole h.mem o 8 (by omega) (by omega) f h1 h2 h3'))).mono ?_
   rintro e w' ⟨he, hb⟩
   exact ⟨⟨0, false, he, by omega, by omega⟩, hb⟩
 ·refine (load_no pa 8 (access_no pa 8 0 false (reach_out h.mem pa 8 hp (by omega) (by omega) ho))).mono ?_
  rintro e w' ⟨he, hb⟩
  exact ⟨⟨0, false, he, by omega, by omega⟩, hb⟩
/-- Load of an entry of a held frame. -/
theorem load_held (h : Ram w p b m N B L) (i k : Nat) (hi : i < N) (hL : i ∉ L) (hk : k < 512) : Calls Tryz.prog 139 #[.pointer (some ⟨p, 0, .none⟩), .int .u64 (2147483648 + i * 4096 + k * 8), .int .i64 8] w fun e w' => e = .returned (.tuple #[.int .u64 (num B (i * 4096 + k * 8) 8), .bool true]) ∧ Below w.heap.size w w' := by
 have := load_ok h.mem (i * 4096 + k * 8) 8 (by omega) (by omega) (fun f h1 h2 => by
  obtain rfl : f = i := by omega
  rw [hdL_in hi]
  simp [hL])
 rw [show (2147483648 + ((i * 4096 + k * 8 : Nat) : Int)) = 2147483648 + i * 4096 + k * 8 by omega] at this
 exact this
/-- Where there is no held frame. -/
theorem load_free (h : Ram w p b m N B L) (nd : Int) (k : Nat) (hn : 0 ≤ nd ∧ nd < 18446744073709551616) (ha : nd % 4096 = 0) (hk : k < 512) (hno : ∀ i : Nat, i < N → i ∉ L → nd ≠ 2147483648 + i * 4096) : Calls Tryz.prog 139 #[.pointer (some ⟨p, 0, .none⟩), .int .u64 (nd + k * 8), .int .i64 8] w fun e w' => e = .returned (.tuple #[.int .u64 0, .bool false]) ∧ Below w.heap.size w w' := by
 have n2 := h.mem.n2
 by_cases ho : 2147483648 ≤ nd + k * 8 ∧ nd + k * 8 - 2147483648 + 8 ≤ 4096 * N
 ·obtain ⟨i, rfl⟩ : ∃ i : Nat, nd = 2147483648 + i * 4096 := ⟨((nd - 2147483648) / 4096).toNat, by omega⟩
  have hiN : i < N := by omega
  have hiL : i ∈ L := by
   by_cases hL : i ∈ L
   ·exact hL
   ·exact absurd rfl (hno i hiN hL)
  have c := reach_hole h.mem (i * 4096 + k * 8) 8 (by omega) (by omega) i (by omega) (by omega) (by rw [hdL_in hiN]; simp [hiL])
  rw [show (2147483648 + ((i * 4096 + k * 8 : Nat) : Int)) = 2147483648 + i * 4096 + k * 8 by omega] at c
  exact load_no _ 8 (access_no _ 8 0 false c)
 ·exact load_no _ 8 (access_no _ 8 0 false (reach_out h.mem (nd + k * 8) 8 (by omega) (by omega) (by omega) ho))
end
/-- The node that an address names: a held frame but the first. -/
def isNd (N : Nat) (L : List Nat) (nd : Int) (i : Nat) : Prop := nd = 2147483648 + i * 4096 ∧ 1 ≤ i ∧ i < N ∧ i ∉ L
end Go.Proofs.YtacdgfojdkppmaaGreatDoor.Rm
namespace Go.Proofs.YtacdgfojdkppmaaGreatDoor.Rm
open Go.RowKit
set_option linter.unusedVariables false
set_option linter.unusedSimpArgs false
/-- The frame that an address names. -/
def fi (nd : Int) : Nat := ((nd - 2147483648) / 4096).toNat
/-- Is there a node: a held frame, but the first? -/
def ndB (N : Nat) (L : List Nat) (nd : Int) : Bool := decide (nd = 2147483648 + fi nd * 4096 ∧ 1 ≤ fi nd ∧ fi nd < N ∧ fi nd ∉ L)
/-- An entry on the way along va, and where it stands. -/
def ent (B : Nat → Int) (nd va l : Int) : Int := num B (fi nd * 4096 + (ix va l).toNat * 8) 8
def st (nd va l : Int) : Int := nd + ix va l * 8
structure Pt where
 a0 : Int
 a1 : Int
 a2 : Int
 l : Int
 e : Int
 k : Int
/-- The walk down a table along va, that changes nothing. -/
def wk (N : Nat) (L : List Nat) (B : Nat → Int) (va : Int) : Nat → Int → Int → Int → Int → Int → Pt
 | 0, nd, a0, a1, a2, e => if ndB N L nd = true then ⟨st nd va 0, a1, a2, 0, ent B nd va 0, kd (ent B nd va 0) 0⟩ else ⟨a0, a1, a2, 0, e, 4⟩
 | l + 1, nd, a0, a1, a2, e => if ndB N L nd = true then
   (if kd (ent B nd va (l + 1 : Nat)) (l + 1 : Nat) = 3 then wk N L B va l (adE (ent B nd va (l + 1 : Nat))) a0 (if l = 0 then st nd va 1 else a1) (if l = 1 then st nd va 2 else a2) (ent B nd va (l + 1 : Nat))
    else ⟨a0, if l = 0 then st nd va 1 else a1, if l = 1 then st nd va 2 else a2, (l + 1 : Nat), ent B nd va (l + 1 : Nat), kd (ent B nd va (l + 1 : Nat)) (l + 1 : Nat)⟩)
  else ⟨a0, a1, a2, (l + 1 : Nat), e, 4⟩
def look (N : Nat) (L : List Nat) (B : Nat → Int) (root va : Int) : Pt := wk N L B va 2 root 0 0 0 0
def Pt.val (x : Pt) : Value := .agg #[.int .u64 x.a0, .int .u64 x.a1, .int .u64 x.a2, .int .i64 x.l, .int .u64 x.e, .int .i64 x.k]
theorem kd0 (e : Int) : kd e 0 ≠ 3 := by
 unfold kd
 split
 ·omega
 split
 ·omega
 split
 ·omega
 split
 ·split <;> omega
 ·simp
theorem ndB_spec {N : Nat} {L : List Nat} {nd : Int} (h : ndB N L nd = true) : nd = 2147483648 + fi nd * 4096 ∧ 1 ≤ fi nd ∧ fi nd < N ∧ fi nd ∉ L := of_decide_eq_true h
theorem ndB_not {N : Nat} {L : List Nat} {nd : Int} (h : ndB N L nd = false) (ha : nd % 4096 = 0) (hb : nd ≠ 2147483648) : ∀ i : Nat, i < N → i ∉ L → nd ≠ 2147483648 + i * 4096 := fun i hi hL e => by
 have hf : fi nd = i := by unfold fi; omega
 have := of_decide_eq_false h
 rw [hf] at this
 exact this ⟨e, by omega, hi, hL⟩
theorem ent_b {B : Nat → Int} (hB : ∀ i, 0 ≤ B i ∧ B i < 256) (nd va l : Int) : 0 ≤ ent B nd va l ∧ ent B nd va l < 18446744073709551616 := by
 have := num_bd B hB (fi nd * 4096 + (ix va l).toNat * 8) 8
 have h2 := this.2
 refine ⟨this.1, ?_⟩
 unfold ent
 simpa using h2
section
variable {w : World} {p b m N : Nat} {B : Nat → Int} {L : List Nat}
theorem load_nd (h : Ram w p b m N B L) (nd va l : Int) (hn : ndB N L nd = true) : Calls Tryz.prog 139 #[.pointer (some ⟨p, 0, .none⟩), .int .u64 (nd + ix va l * 8), .int .i64 8] w fun e w' => e = .returned (.tuple #[.int .u64 (ent B nd va l), .bool true]) ∧ Below w.heap.size w w' := by
 obtain ⟨h1, h2, h3, h4⟩ := ndB_spec hn
 have hb := ix_b va l
 have c := load_held h (fi nd) (ix va l).toNat h3 h4 (by omega)
 rw [show (2147483648 + (fi nd : Int) * 4096 + ((ix va l).toNat : Int) * 8) = nd + ix va l * 8 by omega] at c
 exact c
theorem load_nd_no (h : Ram w p b m N B L) (nd va l : Int) (hr : 0 ≤ nd ∧ nd < 18446744073709551616) (hn : ndB N L nd = false) (ha : nd % 4096 = 0) (hb : nd ≠ 2147483648) : Calls Tryz.prog 139 #[.pointer (some ⟨p, 0, .none⟩), .int .u64 (nd + ix va l * 8), .int .i64 8] w fun e w' => e = .returned (.tuple #[.int .u64 0, .bool false]) ∧ Below w.heap.size w w' := by
 have hi := ix_b va l
 have c := load_free h nd (ix va l).toNat hr ha (by omega) (ndB_not hn ha hb)
 rw [show (nd + ((ix va l).toNat : Int) * 8) = nd + ix va l * 8 by omega] at c
 exact c
theorem meet_any (l at_ e : Int) (w : World) : Calls Tryz.prog 201 #[.agg #[], .int .i64 l, .int .u64 at_, .int .u64 e] w fun r w' => r = .returned (.tuple #[.int .u64 e, .bool true]) ∧ w' = w.alloc (.cells #[] 201) := by
 go_enter Tryz.func201, Tryz.ntmps201
 go_wp2
 go_ret2
 exact ⟨rfl, rfl⟩
end
end Go.Proofs.YtacdgfojdkppmaaGreatDoor.Rm
namespace Go.Proofs.YtacdgfojdkppmaaGreatDoor.Rm
open Go.RowKit
set_option linter.unusedVariables false
set_option linter.unusedSimpArgs false
/-- A path: where its entries stand, its level, its last entry and that one's kind. -/
def pth (a0 a1 a2 l e k : Int) : Value := .agg #[.int .u64 a0, .int .u64 a1, .int .u64 a2, .int .i64 l, .int .u64 e, .int .i64 k]
theorem below1 (w : World) (o : Obj) : Below w.heap.size w (w.alloc o) := (Below.refl w.heap.size w).alloc (Nat.le_refl _) o
theorem below2 (w : World) (o o1 : Obj) : Below w.heap.size w ((w.alloc o).alloc o1) := (below1 w o).alloc (by simp) o1
theorem below3 (w : World) (o o1 o2 : Obj) : Below w.heap.size w (((w.alloc o).alloc o1).alloc o2) := (below2 w o o1).alloc (by simp only [World.size_alloc]; omega) o2
section
variable {w : World} {v : Value}
set_option maxHeartbeats 1000000 in
theorem no_walk (h : Unm w v) (root va : Int) (hv : 0 ≤ va ∧ va < 18446744073709551616) : Calls Tryz.prog 141 #[v, .int .u64 root, .int .u64 va, .agg #[]] w fun e w' => e = .returned (pth 0 0 0 2 0 4) ∧ Below w.heap.size w w' := by
 have c1 := index_any va 2 hv (by omega)
 have hu : Hid (Unm _ v) := ((h.alloc (.cells #[] 201)).alloc (.cells #[.int .u64 0, .int .u64 0, .int .u64 0, .int .i64 0, .int .u64 0, .int .i64 0] 199)).alloc (.cells #[.int .u64 0, .int .u64 0, .int .u64 0, .int .i64 2, .int .u64 0, .int .i64 0] 199)
 clear h
 go_enter Tryz.func141, Tryz.ntmps141
 go_wp2
 go_step3
 go_wp2
 go_step3
 go_wp2
 refine wp_loop_rounds 1 ?_
 rw [rounds_succ]
 go_wp2_with (first | (go_at_call 167; refine (c1 _).mono ?_; rintro e w0 ⟨rfl, rfl⟩) | (go_at_call 139; refine (no_load hu.out _ 8).mono ?_; rintro e w0 ⟨rfl, rfl⟩))
 rw [Exit.noGoto_ret]
 refine bodyPost_ret (v := pth 0 0 0 2 0 4) (by simp [results, Tryz.results141, go_sem, pth]) rfl ⟨rfl, ?_⟩
 exact below3 _ _ _ _
theorem no_new (h : Unm w v) : Calls Tryz.prog 106 #[v] w fun e w' => e = .returned (.tuple #[.int .u64 0, .int .i64 3]) ∧ w' = w := by
 have c := no_isMade h
 clear h
 go_enter Tryz.func106, Tryz.ntmps106
 go_wp2_with (go_at_call 140; refine c.mono ?_; rintro e w0 ⟨rfl, rfl⟩)
 go_ret2
 exact ⟨rfl, rfl⟩
theorem no_unmap (h : Unm w v) (root va : Int) : Calls Tryz.prog 153 #[v, .int .u64 root, .int .u64 va] w fun e w' => e = .returned (.tuple #[.int .u64 0, .int .i64 3]) ∧ Below w.heap.size w w' := by
 have c := no_isMade h
 clear h
 go_enter Tryz.func153, Tryz.ntmps153
 go_wp2_with (go_at_call 140; refine c.mono ?_; rintro e w0 ⟨rfl, rfl⟩)
 go_ret2
 exact ⟨rfl, Below.refl _ _⟩
theorem no_entry (h : Unm w v) (root va : Int) (hv : 0 ≤ va ∧ va < 18446744073709551616) : Calls Tryz.prog 120 #[v, .int .u64 root, .int .u64 va] w fun e w' => e = .returned (.tuple #[.int .u64 0, .int .i64 0, .bool false]) ∧ Below w.heap.size w w' := by
 have c := no_walk h root va hv
 clear h
 go_enter Tryz.func120, Tryz.ntmps120
 go_wp2_with (go_at_call 141; refine c.mono ?_; rintro e w0 ⟨rfl, hb⟩; simp only [pth])
 go_ret3
 exact ⟨rfl, hb.trans ((below1 _ _).mono hb.size)⟩
theorem no_translate (h : Unm w v) (root va a : Int) (hv : 0 ≤ va ∧ va < 18446744073709551616) : Calls Tryz.prog 79 #[v, .int .u64 root, .int .u64 va, .int .i64 a] w fun e w' => e = .returned (.tuple #[.int .u64 0, .bool false]) ∧ Below w.heap.size w w' := by
 have c := no_entry h root va hv
 clear h
 go_enter Tryz.func79, Tryz.ntmps79
 go_wp2_with (go_at_call 120; refine c.mono ?_; rintro e w0 ⟨rfl, hb⟩)
 go_ret2
 exact ⟨rfl, hb⟩
theorem no_map (h : Unm w v) (root va pa perm : Int) (hv : 0 ≤ va ∧ va < 18446744073709551616) : Calls Tryz.prog 107 #[v, .int .u64 root, .int .u64 va, .int .u64 pa, .int .u64 perm] w fun e w' => e = .returned (.int .i64 3) ∧ Below w.heap.size w w' := by
 have c := no_walk h root va hv
 go_enter Tryz.func107, Tryz.ntmps107
 go_wp2_with (first | (go_at_call 141; refine c.mono ?_; rintro e w0 ⟨rfl, hb⟩; simp only [pth]) | (go_at_call 140; refine (no_isMade ((h.below hb).alloc _)).mono ?_; rintro e w1 ⟨rfl, rfl⟩))
 go_ret
 exact ⟨rfl, hb.trans ((below1 _ _).mono hb.size)⟩
end
end Go.Proofs.YtacdgfojdkppmaaGreatDoor.Rm
namespace Go.Proofs.YtacdgfojdkppmaaGreatDoor.Rm
open Go.RowKit
set_option linter.unusedVariables false
set_option linter.unusedSimpArgs false
theorem blw_drewN (B : Nat) (w : World) (n : Nat) : Below B w (w.drewN n) := ⟨rfl, rfl, rfl, Nat.le_refl _, fun _ _ => rfl⟩
theorem spn_pos (l : Int) : 0 < spn l := by unfold spn; split <;> (try split) <;> (try split) <;> omega
theorem mod_le {a b : Int} (ha : 0 ≤ a) (hb : 0 < b) : 0 ≤ a % b ∧ a % b ≤ a := ⟨Int.emod_nonneg _ (by omega), by have := Int.mul_ediv_add_emod a b; have := Int.mul_nonneg (Int.le_of_lt hb) (Int.ediv_nonneg ha (Int.le_of_lt hb)); omega⟩
section
variable {w : World} {v : Value}
theorem no_firstTaken (h : Unm w v) (node from_ : Int) (hf : 0 ≤ from_ ∧ from_ ≤ 512) : Calls Tryz.prog 180 #[v, .int .u64 node, .int .u64 from_] w fun e w' => e = .returned (.int .u64 512) ∧ w' = w := by
 have c := fun a n => no_read h a n
 clear h
 go_enter Tryz.func180, Tryz.ntmps180
 go_wp2_with (go_at_call 39; refine (c _ _).mono ?_; rintro e w0 ⟨rfl, rfl⟩)
 refine wp_loop_rounds 1 ?_
 rw [rounds_succ]
 go_wp2
 go_ret
 exact ⟨rfl, rfl⟩
theorem node_any (a0 a1 a2 l e k a : Int) (h : (l = 0 ∧ a = a0) ∨ (l = 1 ∧ a = a1) ∨ (l = 2 ∧ a = a2)) (ha : 0 ≤ a ∧ a < 18446744073709551616) : Calls Tryz.prog 179 #[pth a0 a1 a2 l e k, .int .i64 l] w fun e w' => e = .returned (.int .u64 (a - a % 4096)) ∧ Below w.heap.size w w' := by
 simp only [pth]
 rcases h with ⟨rfl, rfl⟩ | ⟨rfl, rfl⟩ | ⟨rfl, rfl⟩
 all_goals
  go_enter Tryz.func179, Tryz.ntmps179
  go_wp2
  go_quiet (fail)
  go_wp2
  go_ret
  exact ⟨rfl, (below1 _ _).trans (blw_drewN _ _ _)⟩
/-- The cells of a tour. -/
structure Tour (w : World) (T : Nat) (v : Value) (root va : Int) (m : Value) : Prop where
 c0 : w.cell? ⟨T, 0, .none⟩ = some v
 c1 : w.cell? ⟨T, 1, .none⟩ = some (.int .u64 root)
 c2 : w.cell? ⟨T, 2, .none⟩ = some (.int .u64 va)
 c3 : w.cell? ⟨T, 3, .none⟩ = some m
 f2 : w.frozen? ⟨T, 2, .none⟩ = false
theorem Tour.below {w w' : World} {T : Nat} {v : Value} {root va : Int} {m : Value} (h : Tour w T v root va m) (b : Below w.heap.size w w') : Tour w' T v root va m := by
 have hT : T < w.heap.size := lt_of_cell h.c0
 exact ⟨(b.cell hT).trans h.c0, (b.cell hT).trans h.c1, (b.cell hT).trans h.c2, (b.cell hT).trans h.c3, (b.frozen hT).trans h.f2⟩
theorem Tour.set {w : World} {T : Nat} {v : Value} {root va : Int} {m : Value} (h : Tour w T v root va m) (x : Int) : Tour (w.setCell ⟨T, 2, .none⟩ (.int .u64 x)) T v root x m :=
 ⟨(World.cell?_setCell_other _ _ _ _ (by simp)).trans h.c0, (World.cell?_setCell_other _ _ _ _ (by simp)).trans h.c1, World.cell?_setCell_same' _ _ _ (by rw [h.c2]; rfl), (World.cell?_setCell_other _ _ _ _ (by simp)).trans h.c3, by rw [World.frozen?_setCell]; exact h.f2⟩
end
end Go.Proofs.YtacdgfojdkppmaaGreatDoor.Rm
namespace Go.Proofs.YtacdgfojdkppmaaGreatDoor.Rm
open Go.RowKit Go.Shelf
attribute [local go_sem] Oper.semAt_some
set_option linter.unusedVariables false
set_option linter.unusedSimpArgs false
section
variable {w : World} {v : Value}
end
end Go.Proofs.YtacdgfojdkppmaaGreatDoor.Rm
namespace Go.Proofs.YtacdgfojdkppmaaGreatDoor.Rm
open Go.RowKit Go.Shelf
set_option linter.unusedVariables false
set_option linter.unusedSimpArgs false
/-- Six cells that may be written. -/
structure C6 (W : World) (P : Nat) (x0 x1 x2 x3 x4 x5 : Value) : Prop where
 c0 : W.cell? ⟨P, 0, .none⟩ = some x0
 c1 : W.cell? ⟨P, 1, .none⟩ = some x1
 c2 : W.cell? ⟨P, 2, .none⟩ = some x2
 c3 : W.cell? ⟨P, 3, .none⟩ = some x3
 c4 : W.cell? ⟨P, 4, .none⟩ = some x4
 c5 : W.cell? ⟨P, 5, .none⟩ = some x5
 f0 : W.frozen? ⟨P, 0, .none⟩ = false
 f1 : W.frozen? ⟨P, 1, .none⟩ = false
 f2 : W.frozen? ⟨P, 2, .none⟩ = false
 f3 : W.frozen? ⟨P, 3, .none⟩ = false
 f4 : W.frozen? ⟨P, 4, .none⟩ = false
 f5 : W.frozen? ⟨P, 5, .none⟩ = false
theorem C6.below {W W' : World} {P : Nat} {x0 x1 x2 x3 x4 x5 : Value} (h : C6 W P x0 x1 x2 x3 x4 x5) (b : Below W.heap.size W W') : C6 W' P x0 x1 x2 x3 x4 x5 := by
 have hP : P < W.heap.size := lt_of_cell h.c0
 exact ⟨(b.cell hP).trans h.c0, (b.cell hP).trans h.c1, (b.cell hP).trans h.c2, (b.cell hP).trans h.c3, (b.cell hP).trans h.c4, (b.cell hP).trans h.c5, (b.frozen hP).trans h.f0, (b.frozen hP).trans h.f1, (b.frozen hP).trans h.f2, (b.frozen hP).trans h.f3, (b.frozen hP).trans h.f4, (b.frozen hP).trans h.f5⟩
theorem C6.new (w : World) (x0 x1 x2 x3 x4 x5 : Value) (t : TypeId) : C6 (w.alloc (.cells #[x0, x1, x2, x3, x4, x5] t)) w.heap.size x0 x1 x2 x3 x4 x5 :=
 ⟨by simp, by simp, by simp, by simp, by simp, by simp, World.frozen?_alloc_new _ _ _ _, World.frozen?_alloc_new _ _ _ _, World.frozen?_alloc_new _ _ _ _, World.frozen?_alloc_new _ _ _ _, World.frozen?_alloc_new _ _ _ _, World.frozen?_alloc_new _ _ _ _⟩
theorem C6.set {W : World} {P : Nat} {x0 x1 x2 x3 x4 x5 : Value} (h : C6 W P x0 x1 x2 x3 x4 x5) (y0 y1 y2 y3 y4 y5 : Value) : C6 ((((((W.setCell ⟨P, 0, .none⟩ y0).setCell ⟨P, 1, .none⟩ y1).setCell ⟨P, 2, .none⟩ y2).setCell ⟨P, 3, .none⟩ y3).setCell ⟨P, 4, .none⟩ y4).setCell ⟨P, 5, .none⟩ y5) P y0 y1 y2 y3 y4 y5 :=
 ⟨(World.cell?_setCell_other _ _ _ _ (by simp)).trans ((World.cell?_setCell_other _ _ _ _ (by simp)).trans ((World.cell?_setCell_other _ _ _ _ (by simp)).trans ((World.cell?_setCell_other _ _ _ _ (by simp)).trans ((World.cell?_setCell_other _ _ _ _ (by simp)).trans (World.cell?_setCell_same' _ _ _ (by rw [h.c0]; rfl)))))), (World.cell?_setCell_other _ _ _ _ (by simp)).trans ((World.cell?_setCell_other _ _ _ _ (by simp)).trans ((World.cell?_setCell_other _ _ _ _ (by simp)).trans ((World.cell?_setCell_other _ _ _ _ (by simp)).trans (World.cell?_setCell_same' _ _ _ (by rw [World.cell?_setCell_other _ _ _ _ (by simp), h.c1]; rfl))))), (World.cell?_setCell_other _ _ _ _ (by simp)).trans ((World.cell?_setCell_other _ _ _ _ (by simp)).trans ((World.cell?_setCell_other _ _ _ _ (by simp)).trans (World.cell?_setCell_same' _ _ _ (by rw [World.cell?_setCell_other _ _ _ _ (by simp), World.cell?_setCell_other _ _ _ _ (by simp), h.c2]; rfl)))), (World.cell?_setCell_other _ _ _ _ (by simp)).trans ((World.cell?_setCell_other _ _ _ _ (by simp)).trans (World.cell?_setCell_same' _ _ _ (by rw [World.cell?_setCell_other _ _ _ _ (by simp), World.cell?_setCell_other _ _ _ _ (by simp), World.cell?_setCell_other _ _ _ _ (by simp), h.c3]; rfl))), (World.cell?_setCell_other _ _ _ _ (by simp)).trans (World.cell?_setCell_same' _ _ _ (by rw [World.cell?_setCell_other _ _ _ _ (by simp), World.cell?_setCell_other _ _ _ _ (by simp), World.cell?_setCell_other _ _ _ _ (by simp), World.cell?_setCell_other _ _ _ _ (by simp), h.c4]; rfl)), World.cell?_setCell_same' _ _ _ (by rw [World.cell?_setCell_other _ _ _ _ (by simp), World.cell?_setCell_other _ _ _ _ (by simp), World.cell?_setCell_other _ _ _ _ (by simp), World.cell?_setCell_other _ _ _ _ (by simp), World.cell?_setCell_other _ _ _ _ (by simp), h.c5]; rfl),
  by rw [World.frozen?_setCell, World.frozen?_setCell, World.frozen?_setCell, World.frozen?_setCell, World.frozen?_setCell, World.frozen?_setCell]; exact h.f0, by rw [World.frozen?_setCell, World.frozen?_setCell, World.frozen?_setCell, World.frozen?_setCell, World.frozen?_setCell, World.frozen?_setCell]; exact h.f1, by rw [World.frozen?_setCell, World.frozen?_setCell, World.frozen?_setCell, World.frozen?_setCell, World.frozen?_setCell, World.frozen?_setCell]; exact h.f2, by rw [World.frozen?_setCell, World.frozen?_setCell, World.frozen?_setCell, World.frozen?_setCell, World.frozen?_setCell, World.frozen?_setCell]; exact h.f3, by rw [World.frozen?_setCell, World.frozen?_setCell, World.frozen?_setCell, World.frozen?_setCell, World.frozen?_setCell, World.frozen?_setCell]; exact h.f4, by rw [World.frozen?_setCell, World.frozen?_setCell, World.frozen?_setCell, World.frozen?_setCell, World.frozen?_setCell, World.frozen?_setCell]; exact h.f5⟩
theorem below6 {B : Nat} {w W : World} (h : Below B w W) {P : Nat} (hP : B ≤ P) (y0 y1 y2 y3 y4 y5 : Value) : Below B w ((((((W.setCell ⟨P, 0, .none⟩ y0).setCell ⟨P, 1, .none⟩ y1).setCell ⟨P, 2, .none⟩ y2).setCell ⟨P, 3, .none⟩ y3).setCell ⟨P, 4, .none⟩ y4).setCell ⟨P, 5, .none⟩ y5) :=
 (((((h.setCell (p := ⟨P, 0, .none⟩) hP _).setCell (p := ⟨P, 1, .none⟩) hP _).setCell (p := ⟨P, 2, .none⟩) hP _).setCell (p := ⟨P, 3, .none⟩) hP _).setCell (p := ⟨P, 4, .none⟩) hP _).setCell (p := ⟨P, 5, .none⟩) hP _
section
variable {w : World} {v : Value}
end
end Go.Proofs.YtacdgfojdkppmaaGreatDoor.Rm
