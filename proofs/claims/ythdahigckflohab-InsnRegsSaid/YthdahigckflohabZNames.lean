import Derived.Test.YthdahigckflohabZTabs
import Derived.Below
import Derived.Laws.NewBlocks
namespace Go.Proofs.Ythdahigckflohab
open Go.RowKit
theorem bcell {W w1 : World} (hb : Below W.heap.size W w1) : (∀ b o, b < W.heap.size → w1.cell? ⟨b, o, .none⟩ = W.cell? ⟨b, o, .none⟩) ∧ (∀ b o, b < W.heap.size → w1.frozen? ⟨b, o, .none⟩ = W.frozen? ⟨b, o, .none⟩) :=
  ⟨fun b o h => hb.cell (p := ⟨b, o, .none⟩) h, fun b o h => hb.frozen (p := ⟨b, o, .none⟩) h⟩
theorem bseq {W a b : World} (h : Below W.heap.size W a) (k : Below a.heap.size a b) : Below W.heap.size W b := h.trans (k.mono h.size)
theorem opTab_len : opTab.length = 77 := by kernel_rfl
theorem opRow_out (op : Int) (h : op < 1 ∨ 77 ≤ op) : opRow op = ([], 0, 0) := by
  unfold opRow
  rcases h with h | h
  · rw [show op.toNat = 0 by omega]; rfl
  · rw [List.getD_eq_getElem?_getD, List.getElem?_eq_none (by rw [opTab_len]; omega)]; rfl
theorem nm_out (op : Int) (h : op < 1 ∨ 77 ≤ op) : nm op = ⟨#[]⟩ := by unfold nm; rw [opRow_out op h]
theorem sh_out (op : Int) (h : op < 1 ∨ 77 ≤ op) : sh op = 0 := by unfold sh; rw [opRow_out op h]
theorem wd_out (op : Int) (h : op < 1 ∨ 77 ≤ op) : wd op = 0 := by unfold wd; rw [opRow_out op h]
set_option maxHeartbeats 1000000 in
theorem operationOf_any (op : Int) (w : World) :
    Calls Try.prog 92 #[.int .i64 op] w fun e w' => e = .returned (.agg #[.string (nm op), .int .i64 (sh op), .int .u32 (wd op)]) ∧ Below w.heap.size w w' := by
  by_cases h1 : op < 1
  · have g1 : decide (op < 1) = true := by simpa using h1
    rw [nm_out op (.inl h1), sh_out op (.inl h1), wd_out op (.inl h1)]
    go_enter Try.func92, Try.ntmps92
    go_wp2
    exact bodyPost_ret (v := .agg #[.string ⟨#[]⟩, .int .i64 0, .int .u32 0]) (by simp [results, Try.results92, go_sem]) rfl ⟨rfl, (Below.refl _ _).alloc (Nat.le_refl _) _⟩
  have g1 : decide (op < 1) = false := by simpa using h1
  by_cases h2 : 77 ≤ op
  · have g2 : decide (77 ≤ op) = true := by simpa using h2
    rw [nm_out op (.inr h2), sh_out op (.inr h2), wd_out op (.inr h2)]
    go_enter Try.func92, Try.ntmps92
    go_wp2
    exact bodyPost_ret (v := .agg #[.string ⟨#[]⟩, .int .i64 0, .int .u32 0]) (by simp [results, Try.results92, go_sem]) rfl ⟨rfl, (Below.refl _ _).alloc (Nat.le_refl _) _⟩
  have g2 : decide (77 ≤ op) = false := by simpa using h2
  have b1 : 1 ≤ op := by omega
  have b2 : op < 77 := by omega
  clear h1 h2
  by_cases h3 : op < 50
  · have g3 : decide (op < 50) = true := by simpa using h3
    go_enter Try.func92, Try.ntmps92
    go_wp2_with (go_at_call 97; refine (base_any op (by omega) (by omega) _).mono ?_; rintro e w' ⟨rfl, rfl⟩)
    exact bodyPost_ret (v := .agg #[.string (nm op), .int .i64 (sh op), .int .u32 (wd op)]) (by simp [results, Try.results92, go_sem]) rfl ⟨rfl, ((Below.refl _ _).alloc (Nat.le_refl _) _).alloc (by simp) _⟩
  · have g3 : decide (op < 50) = false := by simpa using h3
    have b3 : 50 ≤ op := by omega
    clear h3
    go_enter Try.func92, Try.ntmps92
    go_wp2_with (go_at_call 98; refine (later_any op (by omega) (by omega) _).mono ?_; rintro e w' ⟨rfl, rfl⟩)
    exact bodyPost_ret (v := .agg #[.string (nm op), .int .i64 (sh op), .int .u32 (wd op)]) (by simp [results, Try.results92, go_sem]) rfl ⟨rfl, ((Below.refl _ _).alloc (Nat.le_refl _) _).alloc (by simp) _⟩
theorem field46_0 (x0 x1 x2 : Value) (w : World) : (Instr.field 112 (.agg #[x0, x1, x2]) 0).run Try.prog w = .ok x0 w := by kernel_rfl
theorem field46_1 (x0 x1 x2 : Value) (w : World) : (Instr.field 112 (.agg #[x0, x1, x2]) 1).run Try.prog w = .ok x1 w := by kernel_rfl
theorem field46_2 (x0 x1 x2 : Value) (w : World) : (Instr.field 112 (.agg #[x0, x1, x2]) 2).run Try.prog w = .ok x2 w := by kernel_rfl
theorem field61_0 (x0 x1 x2 : Value) (w : World) : (Instr.field 119 (.agg #[x0, x1, x2]) 0).run Try.prog w = .ok x0 w := by kernel_rfl
theorem field61_1 (x0 x1 x2 : Value) (w : World) : (Instr.field 119 (.agg #[x0, x1, x2]) 1).run Try.prog w = .ok x1 w := by kernel_rfl
theorem field61_2 (x0 x1 x2 : Value) (w : World) : (Instr.field 119 (.agg #[x0, x1, x2]) 2).run Try.prog w = .ok x2 w := by kernel_rfl
theorem field73_0 (x0 x1 x2 x3 x4 : Value) (w : World) : (Instr.field 98 (.agg #[x0, x1, x2, x3, x4]) 0).run Try.prog w = .ok x0 w := by kernel_rfl
theorem field73_1 (x0 x1 x2 x3 x4 : Value) (w : World) : (Instr.field 98 (.agg #[x0, x1, x2, x3, x4]) 1).run Try.prog w = .ok x1 w := by kernel_rfl
theorem field73_2 (x0 x1 x2 x3 x4 : Value) (w : World) : (Instr.field 98 (.agg #[x0, x1, x2, x3, x4]) 2).run Try.prog w = .ok x2 w := by kernel_rfl
theorem field73_3 (x0 x1 x2 x3 x4 : Value) (w : World) : (Instr.field 98 (.agg #[x0, x1, x2, x3, x4]) 3).run Try.prog w = .ok x3 w := by kernel_rfl
theorem field73_4 (x0 x1 x2 x3 x4 : Value) (w : World) : (Instr.field 98 (.agg #[x0, x1, x2, x3, x4]) 4).run Try.prog w = .ok x4 w := by kernel_rfl
attribute [local go_sem] field46_0 field46_1 field46_2
theorem shape_any (op : Int) (w : World) :
    Calls Try.prog 90 #[.int .i64 op] w fun e w' => e = .returned (.int .i64 (sh op)) ∧ Below w.heap.size w w' := by
  go_enter Try.func90, Try.ntmps90
  go_wp2_with (go_at_call 92; refine (operationOf_any op _).mono ?_; rintro e w' ⟨rfl, hb⟩)

  go_ret
  exact ⟨rfl, hb⟩
def refAll : List (List UInt8 × Int × Int × Int × Int × Int) := zRef :: refTab
def refRow (op : Int) : List UInt8 × Int × Int × Int × Int × Int := refAll.getD op.toNat zRef
def rnm (op : Int) : ByteArray := ⟨(refRow op).1.toArray⟩
def rsh (op : Int) : Int := (refRow op).2.1
def rop (op : Int) : Int := (refRow op).2.2.1
def rf3 (op : Int) : Int := (refRow op).2.2.2.1
def rf7 (op : Int) : Int := (refRow op).2.2.2.2.1
def rwd (op : Int) : Int := (refRow op).2.2.2.2.2
theorem refTab_len : refAll.length = 77 := by kernel_rfl
theorem refRow_out (op : Int) (h : op < 1 ∨ 77 ≤ op) : refRow op = zRef := by
  unfold refRow
  rcases h with h | h
  · rw [show op.toNat = 0 by omega]; rfl
  · rw [List.getD_eq_getElem?_getD, List.getElem?_eq_none (by rw [refTab_len]; omega)]; rfl
theorem t42_all : (List.range 40).map (fun n => (List.range 6).map fun j => T42[n * 6 + j]?) = (List.range 40).map (fun n => (List.range 6).map fun j => (refCells (refAll.getD (n + 1) zRef))[j]?) := by kernel_rfl
theorem t42_n (n : Nat) (h : n < 40) (j : Nat) (hj : j < 6) : T42[n * 6 + j]? = (refCells (refAll.getD (n + 1) zRef))[j]? := by
  have := congrArg (fun l => (l[n]?.getD [])[j]?) t42_all
  simpa [h, hj] using this
theorem t42_at (op : Int) (h0 : 1 ≤ op) (h1 : op ≤ 40) (j : Nat) (hj : j < 6) : T42[(op.toNat - 1) * 6 + j]? = (refCells (refRow op))[j]? := by
  rw [t42_n _ (by omega) j hj, show op.toNat - 1 + 1 = op.toNat by omega]; rfl
theorem t43_all : (List.range 36).map (fun n => (List.range 6).map fun j => T43[n * 6 + j]?) = (List.range 36).map (fun n => (List.range 6).map fun j => (refCells (refAll.getD (n + 41) zRef))[j]?) := by kernel_rfl
theorem t43_n (n : Nat) (h : n < 36) (j : Nat) (hj : j < 6) : T43[n * 6 + j]? = (refCells (refAll.getD (n + 41) zRef))[j]? := by
  have := congrArg (fun l => (l[n]?.getD [])[j]?) t43_all
  simpa [h, hj] using this
theorem t43_at (op : Int) (h0 : 41 ≤ op) (h1 : op ≤ 76) (j : Nat) (hj : j < 6) : T43[(op - 1 - 40).toNat * 6 + j]? = (refCells (refRow op))[j]? := by
  rw [t43_n _ (by omega) j hj, show (op - 1 - 40).toNat + 41 = op.toNat by omega]; rfl
theorem cell_new3 (w : World) (X Y : Obj) (T : Array Value) (t : TypeId) (o : Nat) : (((w.alloc X).alloc Y).alloc (.cells T t)).cell? ⟨w.heap.size + 1 + 1, o, .none⟩ = T[o]? := by
  have h := World.cell?_alloc2_new (w := w.alloc X) Y T t o
  rwa [World.size_alloc] at h
set_option maxHeartbeats 1000000 in
theorem row_any (op : Int) (w : World) :
    Calls Try.prog 73 #[.int .i64 op] w fun e w' => e = .returned (.tuple #[.agg #[.string (rnm op), .int .i64 (rsh op), .int .i64 (rop op), .int .i64 (rf3 op), .int .i64 (rf7 op), .int .u32 (rwd op)], .bool (decide (1 ≤ op ∧ op ≤ 76))]) ∧ Below w.heap.size w w' := by
  by_cases h1 : op < 1
  · have g1 : decide (op < 1) = true := by simpa using h1
    have e : (Value.tuple #[.agg #[.string (rnm op), .int .i64 (rsh op), .int .i64 (rop op), .int .i64 (rf3 op), .int .i64 (rf7 op), .int .u32 (rwd op)], .bool (decide (1 ≤ op ∧ op ≤ 76))]) = .tuple #[.agg #[.string ⟨#[]⟩, .int .i64 0, .int .i64 0, .int .i64 0, .int .i64 0, .int .u32 0], .bool false] := by
      unfold rnm rsh rop rf3 rf7 rwd; rw [refRow_out op (.inl h1), decide_eq_false (by omega)]; rfl
    rw [e]
    go_enter Try.func73, Try.ntmps73
    go_wp2
    exact bodyPost_ret (v := .tuple #[.agg #[.string ⟨#[]⟩, .int .i64 0, .int .i64 0, .int .i64 0, .int .i64 0, .int .u32 0], .bool false]) (by simp [results, Try.results73, go_sem]) rfl ⟨rfl, (Below.refl _ _).alloc (Nat.le_refl _) _⟩
  have g1 : decide (op < 1) = false := by simpa using h1
  by_cases h2 : 76 < op
  · have g2 : decide (76 < op) = true := by simpa using h2
    have e : (Value.tuple #[.agg #[.string (rnm op), .int .i64 (rsh op), .int .i64 (rop op), .int .i64 (rf3 op), .int .i64 (rf7 op), .int .u32 (rwd op)], .bool (decide (1 ≤ op ∧ op ≤ 76))]) = .tuple #[.agg #[.string ⟨#[]⟩, .int .i64 0, .int .i64 0, .int .i64 0, .int .i64 0, .int .u32 0], .bool false] := by
      unfold rnm rsh rop rf3 rf7 rwd; rw [refRow_out op (.inr (by omega)), decide_eq_false (by omega)]; rfl
    rw [e]
    go_enter Try.func73, Try.ntmps73
    go_wp2
    exact bodyPost_ret (v := .tuple #[.agg #[.string ⟨#[]⟩, .int .i64 0, .int .i64 0, .int .i64 0, .int .i64 0, .int .u32 0], .bool false]) (by simp [results, Try.results73, go_sem]) rfl ⟨rfl, (Below.refl _ _).alloc (Nat.le_refl _) _⟩
  have g2 : decide (76 < op) = false := by simpa using h2
  have b1 : 1 ≤ op := by omega
  have b2 : op ≤ 76 := by omega
  have e : decide (1 ≤ op ∧ op ≤ 76) = true := decide_eq_true ⟨b1, b2⟩
  rw [e]
  clear h1 h2 e
  by_cases h3 : op ≤ 40
  · have g3 : decide (op ≤ 40) = true := by simpa using h3
    have c0 : T42[(op.toNat - 1) * 6]? = some (.string (rnm op)) := (t42_at op (by omega) (by omega) 0 (by omega)).trans rfl
    have c1 : T42[(op.toNat - 1) * 6 + 1]? = some (.int .i64 (rsh op)) := (t42_at op (by omega) (by omega) 1 (by omega)).trans rfl
    have c2 : T42[(op.toNat - 1) * 6 + 2]? = some (.int .i64 (rop op)) := (t42_at op (by omega) (by omega) 2 (by omega)).trans rfl
    have c3 : T42[(op.toNat - 1) * 6 + 3]? = some (.int .i64 (rf3 op)) := (t42_at op (by omega) (by omega) 3 (by omega)).trans rfl
    have c4 : T42[(op.toNat - 1) * 6 + 4]? = some (.int .i64 (rf7 op)) := (t42_at op (by omega) (by omega) 4 (by omega)).trans rfl
    have c5 : T42[(op.toNat - 1) * 6 + 5]? = some (.int .u32 (rwd op)) := (t42_at op (by omega) (by omega) 5 (by omega)).trans rfl
    go_enter Try.func73, Try.ntmps73
    go_wp2_with fail
    refine (rbase_any _).mono ?_; rintro e w' ⟨rfl, rfl⟩
    generalize T42 = T at c0 c1 c2 c3 c4 c5 ⊢
    go_wp2
    exact bodyPost_ret (v := .tuple #[.agg #[.string (rnm op), .int .i64 (rsh op), .int .i64 (rop op), .int .i64 (rf3 op), .int .i64 (rf7 op), .int .u32 (rwd op)], .bool true]) (by simp [results, Try.results73, go_sem]) rfl ⟨rfl, ((Below.refl _ _).alloc (Nat.le_refl _) _).alloc (by simp) _⟩
  · have g3 : decide (op ≤ 40) = false := by simpa using h3
    have b3 : 41 ≤ op := by omega
    have c0 : T43[(op - 1 - 40).toNat * 6]? = some (.string (rnm op)) := (t43_at op (by omega) (by omega) 0 (by omega)).trans rfl
    have c1 : T43[(op - 1 - 40).toNat * 6 + 1]? = some (.int .i64 (rsh op)) := (t43_at op (by omega) (by omega) 1 (by omega)).trans rfl
    have c2 : T43[(op - 1 - 40).toNat * 6 + 2]? = some (.int .i64 (rop op)) := (t43_at op (by omega) (by omega) 2 (by omega)).trans rfl
    have c3 : T43[(op - 1 - 40).toNat * 6 + 3]? = some (.int .i64 (rf3 op)) := (t43_at op (by omega) (by omega) 3 (by omega)).trans rfl
    have c4 : T43[(op - 1 - 40).toNat * 6 + 4]? = some (.int .i64 (rf7 op)) := (t43_at op (by omega) (by omega) 4 (by omega)).trans rfl
    have c5 : T43[(op - 1 - 40).toNat * 6 + 5]? = some (.int .u32 (rwd op)) := (t43_at op (by omega) (by omega) 5 (by omega)).trans rfl
    clear h3
    go_enter Try.func73, Try.ntmps73
    go_wp2_with fail
    refine (rbase_any _).mono ?_; rintro e w' ⟨rfl, rfl⟩
    generalize T42 = T' at ⊢
    go_wp2_with fail
    refine (rmore_any _).mono ?_; rintro e w' ⟨rfl, rfl⟩
    generalize T43 = T at c0 c1 c2 c3 c4 c5 ⊢
    have k := fun X Y o => cell_new3 w X Y T 49 o
    go_wp2
    exact bodyPost_ret (v := .tuple #[.agg #[.string (rnm op), .int .i64 (rsh op), .int .i64 (rop op), .int .i64 (rf3 op), .int .i64 (rf7 op), .int .u32 (rwd op)], .bool true]) (by simp [results, Try.results73, go_sem]) rfl ⟨rfl, (((Below.refl _ _).alloc (Nat.le_refl _) _).alloc (by simp) _).alloc (by simp; omega) _⟩

/-- A register's second name, empty of none. -/
def rgn' (r : Int) : ByteArray := if 0 ≤ r ∧ r < 32 then rgn r else ⟨#[]⟩
theorem names_alike : (List.range 80).all (fun n => let k : Int := (n : Int) - 1; sh k == rsh k && (nm k).data == (rnm k).data) = true := by decide +kernel
theorem alike (k : Int) (h0 : -1 ≤ k) (h1 : k ≤ 78) : sh k = rsh k ∧ nm k = rnm k := by
  have h := List.all_eq_true.1 names_alike (k + 1).toNat (by simp; omega)
  have e : ((k + 1).toNat : Int) - 1 = k := by omega
  simp only [e, Bool.and_eq_true, beq_iff_eq] at h
  exact ⟨h.1, by cases hx : nm k; cases hy : rnm k; simp_all⟩
end Go.Proofs.Ythdahigckflohab
