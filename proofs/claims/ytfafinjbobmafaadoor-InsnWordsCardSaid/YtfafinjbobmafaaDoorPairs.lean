import Derived.Test.YtfafinjbobmafaaDoorRRegs
import Derived.Test.YtfafinjbobmafaaDoorEnc
namespace Go.Proofs.YtfafinjbobmafaaDoor
open Go.RowKit Go.Maps Go.WideMaps
set_option linter.unusedVariables false
theorem reg_no (s : ByteArray) (hs : s.size ≤ maxLen) (hh : Maps.has regM (.string s.data.toList) = false) (w : World) :
    Calls Tryd.prog 11 #[.string s] w fun e w' => (∃ v, e = .returned (.tuple #[.int .i64 0, v]) ∧ FaultIn w' w.heap.size v 0 24) ∧ Below w.heap.size w w' := by
  have hkey : keyOf Tryd.prog 9 (.string s) = some (.string s.data.toList) := keyOf_string_mk Tryd.underlying9 hs
  go_enter Tryd.func11, Tryd.ntmps11
  go_wp2_with fail
  refine (regMap_any _).mono ?_
  rintro e w1 ⟨rfl, hown, hb⟩
  go_wp2_with (first | (at_lookup; refine wpList_lookup_own_ok_int _ rfl _ _ 59 rfl 9 3 .i64 law9 Tryd.underlying59 Tryd.underlying3 (zero3 _) w.heap.size 65 _ rfl hown _ _ rfl hkey ?_; intro c hat hwc) | fail)
  refine (fault_any _ _ _).mono ?_
  rintro e w2 ⟨rfl, rfl⟩
  go_wp2
  go_ret2
  exact ⟨⟨_, rfl, faultIn_new w1 _ 0 24 hb.size⟩, hb.alloc hb.size _⟩
theorem firstN_exists (s : ByteArray) : ∃ m, FirstN s m := by
  have key : ∀ m : Nat, m ≤ 76 → (∃ m, FirstN s m) ∨ (∀ k : Nat, k < m → rnm ((k : Int) + 1) ≠ s) := by
    intro m
    induction m with
    | zero => intro _; exact .inr fun k h => by omega
    | succ m ih =>
      intro hm
      rcases ih (by omega) with h | h
      · exact .inl h
      · by_cases hx : rnm ((m : Int) + 1) = s
        · exact .inl ⟨m, by omega, h, fun _ => hx⟩
        · refine .inr fun k hk => ?_
          by_cases e : k = m
          · rw [e]; exact hx
          · exact h k (by omega)
  rcases key 76 (Nat.le_refl _) with h | h
  · exact h
  · exact ⟨76, Nat.le_refl _, h, fun h => by omega⟩
theorem firstR_exists (s : ByteArray) : ∃ m, FirstR s m := by
  have key : ∀ m : Nat, m ≤ 32 → (∃ m, FirstR s m) ∨ (∀ k : Nat, k < m → rgn k ≠ s ∧ xname k ≠ s) := by
    intro m
    induction m with
    | zero => intro _; exact .inr fun k h => by omega
    | succ m ih =>
      intro hm
      rcases ih (by omega) with h | h
      · exact .inl h
      · by_cases hx : rgn m = s ∨ xname m = s
        · exact .inl ⟨m, by omega, h, fun _ => hx⟩
        · refine .inr fun k hk => ?_
          by_cases e : k = m
          · rw [e]; exact ⟨fun h => hx (.inl h), fun h => hx (.inr h)⟩
          · exact h k (by omega)
  rcases key 32 (Nat.le_refl _) with h | h
  · exact h
  · exact ⟨32, Nat.le_refl _, h, fun h => by omega⟩
theorem names_pair (s : ByteArray) (hs : s.size ≤ maxLen) : ∃ (c : Int) (ok : Bool),
    (∀ w, Calls Tryd.prog 7 #[.string s] w fun e w' => e = .returned (.tuple #[.int .i64 c, .bool ok]) ∧ Below w.heap.size w w') ∧
    (∀ w, Calls Tryd.prog 12 #[.string s] w fun e w' => e = .returned (.tuple #[.int .i64 c, .bool ok]) ∧ Below w.heap.size w w') := by
  obtain ⟨m, hF⟩ := firstN_exists s
  by_cases h : m < 76
  · refine ⟨(m : Int) + 1, true, fun w => ?_, fun w => ?_⟩
    · have e : nm ((m : Int) + 1) = s := (alike ((m : Int) + 1) (by omega) (by omega)).2.trans (hF.2.2 h)
      have hit := opM_hit ((m : Int) + 1) (by omega) (by omega)
      rw [e] at hit
      refine (byName_any s hs w).mono fun e w' ⟨⟨c, he, hf⟩, hb⟩ => ⟨?_, hb⟩
      have hc : c = (m : Int) + 1 := by
        have := hf.symm.trans (hit.2 _)
        simpa using this
      rw [he, hc, hit.1]
    · have := rByName_any s m w hF
      rwa [show resN m = .tuple #[.int .i64 ((m : Int) + 1), .bool true] from if_pos h] at this
  · refine ⟨0, false, fun w => ?_, fun w => ?_⟩
    · have miss := putAll_miss opPairs (.map []) s.data.toList (fun p hp e => by
        obtain ⟨n, hn, rfl⟩ := List.mem_map.1 hp
        have hn' : n < 76 := by simpa using hn
        exact hF.2.1 n (by omega) (((alike ((n : Int) + 1) (by omega) (by omega)).2.symm).trans (WideShapes.bytes_inj e)))
      refine (byName_any s hs w).mono fun e w' ⟨⟨c, he, hf⟩, hb⟩ => ⟨?_, hb⟩
      have hc : c = 0 := by
        have := hf.symm.trans (miss.2 _)
        simpa [DataW.atKey] using this
      have hh : Maps.has opM (.string s.data.toList) = false := miss.1.trans rfl
      rw [he, hc, hh]
    · have := rByName_any s m w hF
      rwa [show resN m = .tuple #[.int .i64 0, .bool false] from if_neg h] at this
theorem reg_hit (s : ByteArray) (hs : s.size ≤ maxLen) (v : Int) (hm : (s.data.toList, v) ∈ allRegs) (w : World) :
    Calls Tryd.prog 11 #[.string s] w fun e w' => e = .returned (.tuple #[.int .i64 v, .nilIface]) ∧ Below w.heap.size w w' := by
  have hit := putAll_hit _ (.map []) _ _ ⟨[], rfl⟩ allRegs_nodup hm
  refine (reg_yes s hs hit.1 w).mono fun e w' ⟨⟨c, he, hf⟩, hb⟩ => ⟨?_, hb⟩
  have hc : c = v := by
    have := hf.symm.trans (hit.2 _)
    simpa using this
  rw [he, hc]
theorem regs_pair (s : ByteArray) (hs : s.size ≤ maxLen) :
    (∃ y : Int, (∀ w, Calls Tryd.prog 11 #[.string s] w fun e w' => e = .returned (.tuple #[.int .i64 y, .nilIface]) ∧ Below w.heap.size w w') ∧
      (∀ w, Calls Tryd.prog 13 #[.string s] w fun e w' => e = .returned (.tuple #[.int .i64 y, .bool true]) ∧ Below w.heap.size w w')) ∨
    ((∀ w, Calls Tryd.prog 11 #[.string s] w fun e w' => (∃ v, e = .returned (.tuple #[.int .i64 0, v]) ∧ FaultIn w' w.heap.size v 0 24) ∧ Below w.heap.size w w') ∧
      (∀ w, Calls Tryd.prog 13 #[.string s] w fun e w' => e = .returned (.tuple #[.int .i64 0, .bool false]) ∧ Below w.heap.size w w')) := by
  obtain ⟨m, hF⟩ := firstR_exists s
  by_cases h : m < 32
  · refine .inl ⟨m, reg_hit s hs m (List.mem_append.2 (.inl (List.mem_flatMap.2 ⟨m, by simpa using h, ?_⟩))), fun w => rReg_yes s m w hF h⟩
    rcases hF.2.2 h with e | e
    · rw [← e]; simp
    · rw [← e]; simp
  · obtain rfl : m = 32 := by have := hF.1; omega
    by_cases hf : s = fpB
    · refine .inl ⟨8, reg_hit s hs 8 ?_, fun w => ?_⟩
      · rw [hf]; exact List.mem_append.2 (.inr (by simp [fpB]))
      · have := rReg_no s w hF true (same_bytes hf)
        simpa using this
    · refine .inr ⟨reg_no s hs ?_, fun w => ?_⟩
      · refine (putAll_miss allRegs (.map []) s.data.toList (fun p hp e => ?_)).1.trans rfl
        rcases List.mem_append.1 hp with hp | hp
        · obtain ⟨n, hn, hp⟩ := List.mem_flatMap.1 hp
          have hn' : n < 32 := by simpa using hn
          have := hF.2.1 n hn'
          simp only [List.mem_cons, List.not_mem_nil, or_false] at hp
          rcases hp with rfl | rfl
          · exact this.2 (WideShapes.bytes_inj e)
          · exact this.1 (WideShapes.bytes_inj e)
        · simp only [List.mem_cons, List.not_mem_nil, or_false] at hp
          subst hp
          exact hf (WideShapes.bytes_inj e).symm
      · have := rReg_no s w hF false (other_bytes hf)
        simpa using this
end Go.Proofs.YtfafinjbobmafaaDoor
