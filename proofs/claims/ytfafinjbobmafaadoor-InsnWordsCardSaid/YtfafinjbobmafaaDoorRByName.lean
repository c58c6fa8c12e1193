import Derived.Test.YtfafinjbobmafaaDoorMapW
import Derived.LoopTactic
namespace Go.Proofs.YtfafinjbobmafaaDoor
open Go.RowKit
set_option linter.unusedVariables false
/-- The first row whose name it is (76: none). -/
def FirstN (s : ByteArray) (m : Nat) : Prop := m ≤ 76 ∧ (∀ k : Nat, k < m → rnm ((k : Int) + 1) ≠ s) ∧ (m < 76 → rnm ((m : Int) + 1) = s)
def resN (m : Nat) : Value := if m < 76 then .tuple #[.int .i64 ((m : Int) + 1), .bool true] else .tuple #[.int .i64 0, .bool false]
theorem t42_nm (n : Nat) (h : n < 40) : T42[n * 6]? = some (.string (rnm ((n : Int) + 1))) := by
  have := t42_at ((n : Int) + 1) (by omega) (by omega) 0 (by omega)
  rw [show ((n : Int) + 1).toNat - 1 = n by omega] at this
  exact this.trans rfl
theorem t43_nm (n : Nat) (h : n < 36) : T43[n * 6]? = some (.string (rnm ((n : Int) + 41))) := by
  have := t43_at ((n : Int) + 41) (by omega) (by omega) 0 (by omega)
  rw [show ((n : Int) + 41 - 1 - 40).toNat = n by omega] at this
  exact this.trans rfl
theorem same_bytes {a b : ByteArray} (h : a = b) : (a.toList == b.toList) = true := by rw [h]; exact beq_self_eq_true _
theorem other_bytes {a b : ByteArray} (h : a ≠ b) : (a.toList == b.toList) = false := by
  rw [beq_eq_false_iff_ne]
  intro e
  rw [ByteArray.toList_eq, ByteArray.toList_eq] at e
  exact h (WideShapes.bytes_inj e)
theorem cell_two (w : World) (T T' : Array Value) (t t' : TypeId) (o : Nat) : ((w.alloc (.cells T t)).alloc (.cells T' t')).cell? ⟨w.heap.size + 1, o, .none⟩ = T'[o]? := World.cell?_alloc2_new (w := w) (.cells T t) T' t' o
set_option maxHeartbeats 2000000 in
set_option maxRecDepth 100000 in
theorem rByName_any (s : ByteArray) (m : Nat) (w : World) (hF : FirstN s m) :
    Calls Tryd.prog 12 #[.string s] w fun e w' => e = .returned (resN m) ∧ Below w.heap.size w w' := by
  have H : Hid (FirstN s m) := hF
  have hm := hF.1
  have t42 := t42_nm
  have t43 := t43_nm
  clear hF
  go_enter Tryd.func12, Tryd.ntmps12
  go_wp2_with fail
  refine (rbase_any _).mono ?_; rintro e w' ⟨rfl, rfl⟩
  generalize T42 = T at t42 ⊢
  go_wp2_with fail
  refine (rmore_any _).mono ?_; rintro e w' ⟨rfl, rfl⟩
  generalize T43 = T' at t43 ⊢
  have hB : Below w.heap.size w ((w.alloc (.cells T 65)).alloc (.cells T' 65)) := ((Below.refl _ _).alloc (Nat.le_refl _) _).alloc (by simp) _
  go_wp2
  go_loopw [6] (fun i wr => ∃ n : Nat, n ≤ 40 ∧ n ≤ m ∧ i = .int .i64 n ∧ wr = (w.alloc (.cells T 65)).alloc (.cells T' 65)) (fun i _ => 40 - (intOf i).toNat)
  case atStart => exact ⟨0, by omega, by omega, rfl, rfl⟩
  case round =>
    obtain ⟨n, h1, h2, rfl, rfl⟩ := hrel
    by_cases hlt : n < 40
    · have c0 := t42 n hlt
      by_cases he : n = m
      · have g := same_bytes (show rnm ((n : Int) + 1) = s by rw [he]; exact H.out.2.2 (by omega))
        have er : Hid (resN m = .tuple #[.int .i64 ((n : Int) + 1), .bool true]) := by rw [he]; exact (if_pos (by omega) : resN m = _)
        clear t42 t43 H he
        go_wp2
        go_ret2
        exact ⟨by rw [er.out]; rfl, hB⟩
      · have g := other_bytes (H.out.2.1 n (by omega))
        have hnm : n < m := by omega
        clear t42 t43 H he
        go_wp2
        exact ⟨⟨n + 1, by omega, by omega, by go_num, trivial⟩, by simp [intOf]; omega⟩
    · have e40 : n = 40 := by omega
      subst e40
      have k := fun o => cell_two w T T' 65 65 o
      go_wp2
      go_loopw [7] (fun i wr => ∃ n : Nat, n ≤ 36 ∧ n + 40 ≤ m ∧ i = .int .i64 n ∧ wr = (w.alloc (.cells T 65)).alloc (.cells T' 65)) (fun i _ => 36 - (intOf i).toNat)
      case atStart => exact ⟨0, by omega, by omega, rfl, rfl⟩
      case round =>
        obtain ⟨n, h1, h2, rfl, rfl⟩ := hrel
        by_cases hlt : n < 36
        · have c0 := t43 n hlt
          have ei : ((n + 40 : Nat) : Int) + 1 = (n : Int) + 41 := by omega
          by_cases he : n + 40 = m
          · have g := same_bytes (show rnm ((n : Int) + 41) = s by rw [← ei, he]; exact H.out.2.2 (by omega))
            have er : Hid (resN m = .tuple #[.int .i64 (40 + (n : Int) + 1), .bool true]) := by rw [← he, show 40 + (n : Int) + 1 = ((n + 40 : Nat) : Int) + 1 by omega]; exact (if_pos (by omega) : resN (n + 40) = _)
            clear t42 t43 H he
            go_wp2
            go_ret2
            exact ⟨by rw [er.out]; rfl, hB⟩
          · have g := other_bytes (show rnm ((n : Int) + 41) ≠ s by rw [← ei]; exact H.out.2.1 (n + 40) (by omega))
            have hnm : n + 40 < m := by omega
            clear t42 t43 H he
            go_wp2
            exact ⟨⟨n + 1, by omega, by omega, by go_num, trivial⟩, by simp [intOf]; omega⟩
        · have er : Hid (resN m = .tuple #[.int .i64 0, .bool false]) := (if_neg (by omega) : resN m = _)
          have e36 : n = 36 := by omega
          subst e36
          clear t42 t43 H
          go_wp2
          go_ret2
          exact ⟨by rw [er.out]; rfl, hB⟩
end Go.Proofs.YtfafinjbobmafaaDoor
