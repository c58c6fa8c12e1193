import Derived.Test.YtblmkkhiojbcjaaGreatSEnt
namespace Go.Proofs.YtblmkkhiojbcjaaGreat
open Go.RowKit
set_option linter.unusedVariables false
set_option linter.unusedSimpArgs false
/-- The entry with these bits that leads to the page at pa. -/
def toP (pa c : Int) : Int := bits .or .u64 (bits .or .u64 (pa / 4096 * 1024) c) 1
theorem toPage_any (pa c : Int) (hp : 0 ≤ pa ∧ pa < 18446744073709551616) (w : World) : Calls Tryz.prog 115 #[.int .u64 pa, .int .u64 c] w fun r w' => r = .returned (.int .u64 (toP pa c)) ∧ w' = w := by
  unfold toP
  go_enter Tryz.func115, Tryz.ntmps115
  go_wp2
  go_ret
  exact ⟨rfl, rfl⟩
theorem mayPerm_any (c : Int) (w : World) : Calls Tryz.prog 113 #[.int .u64 c] w fun r w' => r = .returned (.bool (!ho c 18446744073709551361 && ho c 10 && (!hs c 4 || hs c 2))) ∧ w' = w := by
  have c68 := fun W => readIf_any c W
  generalize (!hs c 4 || hs c 2) = x at *
  have h1 : ho c 18446744073709551361 = false ∨ ho c 18446744073709551361 = true := by cases ho c 18446744073709551361 <;> simp
  have h2 : ho c 10 = false ∨ ho c 10 = true := by cases ho c 10 <;> simp
  rcases h1 with h1 | h1 <;> rcases h2 with h2 | h2
  all_goals
    simp only [h1, h2]
    go_enter Tryz.func113, Tryz.ntmps113
    go_wp2_with (first | (go_at_call 139; refine (hasOne_any _ _ _).mono ?_; rintro r w0 ⟨rfl, rfl⟩) | (go_at_call 140; refine (c68 _).mono ?_; rintro r w0 ⟨rfl, rfl⟩))
    go_ret
    exact ⟨by simp, rfl⟩
theorem or_b (a c : Int) : 0 ≤ bits .or .u64 a c ∧ bits .or .u64 a c < 18446744073709551616 := by
  have e : bits .or .u64 a c = IntKind.u64.wrap (((BitVec.ofInt 64 a ||| BitVec.ofInt 64 c).toNat : Nat) : Int) := rfl
  rw [e, IntKind.wrap_u64]
  omega
theorem toP_b (pa c : Int) : 0 ≤ toP pa c ∧ toP pa c < 18446744073709551616 := or_b _ _
section
variable {w w' : World} {p b m N : Nat} {B : Nat → Int} {L : List Nat}
theorem Ram.laid (h : Ram w p b m N B L) {o : Nat} {vs : List Int} (hm : Mem w' p b m N (over B o vs) (adr L) (hdL N L) (N - L.length)) (hf : ∀ j ∈ L, o + vs.length ≤ j * 4096 ∨ j * 4096 + 4096 ≤ o) : Ram w' p b m N (over B o vs) L :=
  ⟨hm, h.nd, h.lt, h.thr.congr (fun j hj k hk => by
    have := hf j hj
    unfold over
    rw [if_neg (by omega)])⟩
/-- A number is laid into an entry of a node. -/
theorem store_nd (h : Ram w p b m N B L) (nd va l v : Int) (hn : ndB N L nd = true) (hv : 0 ≤ v ∧ v < 18446744073709551616) : Calls Tryz.prog 116 #[.pointer (some ⟨p, 0, .none⟩), .int .u64 (nd + ix va l * 8), .int .i64 8, .int .u64 v] w fun e w' => e = .returned (.bool true) ∧ Ram w' p b m N (over B (fi nd * 4096 + (ix va l).toNat * 8) (le v 8)) L ∧ Fra p b m w w' := by
  obtain ⟨h1, h2, h3, h4⟩ := ndB_spec hn
  have hb := ix_b va l
  have c := store_ok h.mem (fi nd * 4096 + (ix va l).toNat * 8) 8 (by omega) (by omega) (fun f k1 k2 => by
    obtain rfl : f = fi nd := by omega
    rw [hdL_in h3]
    simp [h4]) v hv
  rw [show (2147483648 + ((fi nd * 4096 + (ix va l).toNat * 8 : Nat) : Int)) = nd + ix va l * 8 by omega] at c
  refine c.mono ?_
  rintro e w2 ⟨he, hm, hF⟩
  refine ⟨he, h.laid hm (fun j hj => ?_), hF⟩
  have hne : j ≠ fi nd := fun e => h4 (e ▸ hj)
  rw [le_len]
  omega
/-- An entry that is not empty stays. -/
theorem meetL_keep (q : Option Addr) (leaf l at_ e : Int) (he : 0 ≤ e ∧ e < 18446744073709551616) (hl : l = 0 ∨ l = 1 ∨ l = 2) (hk : kd e l ≠ 0) (w : World) : Calls Tryz.prog 176 #[.agg #[.pointer q, .int .u64 leaf], .int .i64 l, .int .u64 at_, .int .u64 e] w fun r w' => r = .returned (.tuple #[.int .u64 e, .bool true]) ∧ Below w.heap.size w w' := by
  have c66 := fun W => kind_any e l he hl W
  generalize kd e l = k at *
  have hk2 : (k != 0) = true := by simpa using hk
  go_enter Tryz.func176, Tryz.ntmps176
  go_wp2_with (first | (go_at_call 138; refine (c66 _).mono ?_; rintro r w0 ⟨rfl, rfl⟩))
  go_ret2
  exact ⟨rfl, below1 _ _⟩
/-- A leaf is laid down. -/
theorem meetL_leaf (h : Ram w p b m N B L) (nd va leaf e : Int) (hn : ndB N L nd = true) (hv : 0 ≤ leaf ∧ leaf < 18446744073709551616) (he : 0 ≤ e ∧ e < 18446744073709551616) (hk : kd e 0 = 0) : Calls Tryz.prog 176 #[.agg #[.pointer (some ⟨p, 0, .none⟩), .int .u64 leaf], .int .i64 0, .int .u64 (nd + ix va 0 * 8), .int .u64 e] w fun r w' => r = .returned (.tuple #[.int .u64 leaf, .bool true]) ∧ Ram w' p b m N (over B (fi nd * 4096 + (ix va 0).toNat * 8) (le leaf 8)) L ∧ Fra p b m w w' := by
  have c66 := fun W => kind_any e 0 he (by omega) W
  have b0 := below1 w (.cells #[.pointer (some ⟨p, 0, .none⟩), .int .u64 leaf] 150)
  have c47 := store_nd (h.below b0) nd va 0 leaf hn hv
  have HF : Hid (Fra p b m w _) := Fra.below b0
  rw [hk] at c66
  clear h b0 hk
  generalize nd + ix va 0 * 8 = at_ at *
  go_enter Tryz.func176, Tryz.ntmps176
  go_wp2_with (first | (go_at_call 138; refine (c66 _).mono ?_; rintro r w0 ⟨rfl, rfl⟩) | (go_at_call 116; refine c47.mono ?_; rintro r w1 ⟨rfl, hR, hF⟩))
  go_ret2
  exact ⟨rfl, hR, HF.out.trans hF⟩
/-- A node is taken, and the entry leads to it. -/
theorem meetL_node {i : Nat} {l' : List Nat} (h : Ram w p b m N B (i :: l')) (nd va leaf l e : Int) (hl : l = 1 ∨ l = 2) (hn : ndB N l' nd = true) (he : 0 ≤ e ∧ e < 18446744073709551616) (hk : kd e l = 0) : Calls Tryz.prog 176 #[.agg #[.pointer (some ⟨p, 0, .none⟩), .int .u64 leaf], .int .i64 l, .int .u64 (nd + ix va l * 8), .int .u64 e] w fun r w' => r = .returned (.tuple #[.int .u64 (toP (2147483648 + i * 4096) 0), .bool true]) ∧ Ram w' p b m N (over (zer B i) (fi nd * 4096 + (ix va l).toNat * 8) (le (toP (2147483648 + i * 4096) 0) 8)) l' ∧ Fra p b m w w' := by
  have c66 := fun W => kind_any e l he (by omega) W
  have b0 := below1 w (.cells #[.pointer (some ⟨p, 0, .none⟩), .int .u64 leaf] 150)
  have c22 := alloc_some i (h.below b0)
  have hi := h.lt i (by simp)
  have n2 := h.mem.n2
  have c44 := fun W => toPage_any (2147483648 + i * 4096) 0 (by omega) W
  have HF : Hid (Fra p b m w _) := Fra.below b0
  have HP := toP_b (2147483648 + (i : Int) * 4096) 0
  have c47 : Hid (∀ W, Ram W p b m N (zer B i) l' → Calls Tryz.prog 116 #[.pointer (some ⟨p, 0, .none⟩), .int .u64 (nd + ix va l * 8), .int .i64 8, .int .u64 (toP (2147483648 + i * 4096) 0)] W fun e w' => e = .returned (.bool true) ∧ Ram w' p b m N (over (zer B i) (fi nd * 4096 + (ix va l).toNat * 8) (le (toP (2147483648 + i * 4096) 0) 8)) l' ∧ Fra p b m W w') := fun W hW => store_nd hW nd va l _ hn HP
  have hlt : (0 : Int) < l := by omega
  rw [hk] at c66
  have P0 := (below1 w (.cells #[.pointer (some ⟨p, 0, .none⟩), .int .u64 leaf] 150))
  have hpw : p < w.heap.size := h.mem.plt
  have hbw : b < w.heap.size := h.mem.blt
  have hmw : m < w.heap.size := h.mem.mlt
  have HZ : Hid (∀ W, Fra p b m (w.alloc (.cells #[.pointer (some ⟨p, 0, .none⟩), .int .u64 leaf] 150)) W → W.cell? ⟨w.heap.size, 0, .none⟩ = some (.pointer (some ⟨p, 0, .none⟩))) := fun W hF => (hF.cell (x := ⟨w.heap.size, 0, .none⟩) (by simp) (by show w.heap.size ≠ p; omega) (by show w.heap.size ≠ b; omega) (by show w.heap.size ≠ m; omega)).trans (by simp)
  clear h b0 hk P0 hpw hbw hmw hi
  generalize nd + ix va l * 8 = at_ at *
  generalize toP (2147483648 + i * 4096) 0 = tp at *
  go_enter Tryz.func176, Tryz.ntmps176
  go_wp2_with (first | (go_at_call 138; refine (c66 _).mono ?_; rintro r w0 ⟨rfl, rfl⟩) | (go_at_call 39; refine c22.mono ?_; rintro r V1 ⟨rfl, hR1, hF1⟩; have z1 := HZ.out V1 hF1; have c47' := c47.out V1 hR1; have HF1 : Hid (Fra p b m (w.alloc (.cells #[.pointer (some ⟨p, 0, .none⟩), .int .u64 leaf] 150)) V1) := hF1; clear hR1 hF1 c22) | (go_at_call 115; refine (c44 _).mono ?_; rintro r V1 ⟨rfl, rfl⟩) | (go_at_call 116; refine c47'.mono ?_; rintro r V2 ⟨rfl, hR, hF⟩))
  go_ret2
  exact ⟨rfl, hR, (HF.out.trans HF1.out).trans hF⟩
end
end Go.Proofs.YtblmkkhiojbcjaaGreat
