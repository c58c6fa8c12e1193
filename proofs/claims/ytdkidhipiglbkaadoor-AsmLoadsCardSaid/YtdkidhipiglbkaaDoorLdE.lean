import Derived.Test.YtdkidhipiglbkaaDoorLdD
namespace Go.Proofs.YtdkidhipiglbkaaDoor
open Go.RowKit
set_option linter.unusedVariables false
set_option linter.unusedSimpArgs false
theorem ldB_small (rd v : Int) (h : -2048 ≤ v ∧ v < 2048) : ldB rd v = [(22, 0, v)] := by unfold ldB; rw [if_pos h]
theorem ldB_mid (rd v : Int) (h : ¬ (-2048 ≤ v ∧ v < 2048)) : ldB rd v = (1, 0, wrap32 (v - lo v)) :: lowI 41 rd (lo v) := by unfold ldB lowI; rw [if_neg h]
theorem ldB_any (x v rd : Int) (w : World) (hx : wrap64 x = v) (hr0 : 0 ≤ rd) (hr1 : rd < 32) (hv : I64 v) (hm : -2147483648 ≤ v ∧ v < 2147483648) :
    Calls Tryd.prog 4 #[.int .u64 x, .int .i64 rd] w (Gv rd (ldB rd v) w) := by
  by_cases hs : -2048 ≤ v ∧ v < 2048
  · rw [ldB_small rd v hs]
    exact load_small x v rd w hx hr0 hr1 hv hs
  · rw [ldB_mid rd v hs]
    exact load_mid x v _ rd w hx hr0 hr1 hv hs hm rfl
theorem od_i64 (v P : Int) (hv : I64 v) (hP : 1073741824 ≤ P) (h0 : -(2048 * P) ≤ v) (h1 : v ≤ 2048 * P) : I64 (od 64 (hi v)) ∧ -P ≤ od 64 (hi v) ∧ od 64 (hi v) ≤ P := by
  have a := hi_bd v P hv hP h0 h1
  have b := od_bd 64 P (by omega) (hi v) a.1 a.2
  have c : -2251799813685248 ≤ hi v ∧ hi v ≤ 2251799813685248 := by unfold hi wrap64; omega
  have d := od_bd 64 2251799813685248 (by omega) (hi v) c.1 c.2
  exact ⟨⟨by omega, by omega⟩, b⟩
theorem wrap_wrap (y : Int) (h : I64 y) : wrap64 (IntKind.u64.wrap y) = y := by
  obtain ⟨a, b⟩ := h
  rw [IntKind.wrap_u64]
  unfold wrap64
  omega
theorem load_any (n : Nat) : ∀ (x v rd : Int) (w : World), wrap64 x = v → 0 ≤ rd → rd < 32 → I64 v → -(1073741824 * 2048 ^ n) ≤ v → v ≤ 1073741824 * 2048 ^ n → Laid w → 0 < w.heap.size → n ≤ 3 →
    Calls Tryd.prog 4 #[.int .u64 x, .int .i64 rd] w (Gv rd (ldF n rd v) w) := by
  induction n with
  | zero =>
    intro x v rd w hx r0 r1 hv b0 b1 _ _ _
    exact ldB_any x v rd w hx r0 r1 hv (by omega)
  | succ n ih =>
    intro x v rd w hx r0 r1 hv b0 b1 hT h0 hn
    simp only [ldF]
    by_cases hm : -2147483648 ≤ v ∧ v < 2147483648
    · rw [if_pos hm]
      exact ldB_any x v rd w hx r0 r1 hv hm
    · rw [if_neg hm]
      have hp : (1 : Int) ≤ 2048 ^ n := by have := Int.pow_pos (n := 2048) (m := n) (by decide); omega
      have ep : (2048 : Int) ^ (n + 1) = 2048 ^ n * 2048 := Int.pow_succ _ _
      rw [ep] at b0 b1
      have o := od_i64 v (1073741824 * 2048 ^ n) hv (by omega) (by omega) (by omega)
      have ll := ldF_len n rd (od 64 (hi v))
      refine load_big x v _ rd _ _ (ldF n rd (od 64 (hi v))) w hx r0 r1 hv hm rfl rfl rfl hT h0 (by omega) ?_
      intro W hW h0'
      refine ih _ _ rd W ?_ r0 r1 o.1 (by omega) (by omega) hW h0' (by omega)
      rw [od_tz]
      exact wrap_wrap _ o.1
theorem load_none (x rd : Int) (w : World) (h : ¬ (0 ≤ rd ∧ rd < 32)) : Calls Tryd.prog 4 #[.int .u64 x, .int .i64 rd] w fun e w' => e = .returned (.slice none 0 0) ∧ w' = w := by
  by_cases g : rd < 0
  · go_enter Tryd.func4, Tryd.ntmps4
    go_wp2
    go_ret
    exact ⟨rfl, rfl⟩
  · have k : 32 ≤ rd := by omega
    clear h
    go_enter Tryd.func4, Tryd.ntmps4
    go_wp2
    go_ret
    exact ⟨rfl, rfl⟩
theorem ref_none (x rd : Int) (w : World) (h : ¬ (0 ≤ rd ∧ rd < 32)) : Calls Tryd.prog 6 #[.int .u64 x, .int .i64 rd] w fun e w' => e = .returned (.slice none 0 0) ∧ w' = w := by
  by_cases g : rd < 0
  · go_enter Tryd.func6, Tryd.ntmps6
    go_wp2
    go_ret
    exact ⟨rfl, rfl⟩
  · have k : 31 < rd := by omega
    clear h
    go_enter Tryd.func6, Tryd.ntmps6
    go_wp2
    go_ret
    exact ⟨rfl, rfl⟩
set_option maxHeartbeats 2000000 in
set_option maxRecDepth 100000 in
theorem ref_small (x v rd : Int) (w : World) (hx : wrap64 x = v) (hr0 : 0 ≤ rd) (hr1 : rd < 32) (hv : I64 v) (hs : -2048 ≤ v ∧ v < 2048) :
    Calls Tryd.prog 6 #[.int .u64 x, .int .i64 rd] w (Gv rd [(22, 0, v)] w) := by
  obtain ⟨s0, s1⟩ := hs
  go_enter Tryd.func6, Tryd.ntmps6
  go_wp2
  go_ret
  exact ⟨_, _, rfl, own_new _ _ _ _ _ _ (Nat.le_refl _), (Below.refl _ _).alloc (Nat.le_refl _) _⟩
set_option maxHeartbeats 2000000 in
set_option maxRecDepth 100000 in
theorem ref_mid (x v l rd : Int) (w : World) (hx : wrap64 x = v) (hr0 : 0 ≤ rd) (hr1 : rd < 32) (hv : I64 v) (hs : v < -2048 ∨ 2048 ≤ v) (hm : -2147483648 ≤ v ∧ v < 2147483648) (hl : lo v = l) :
    Calls Tryd.prog 6 #[.int .u64 x, .int .i64 rd] w (Gv rd ((1, 0, wrap32 (v - l)) :: lowI 41 rd l) w) := by
  have c1 := lower_any v w hv
  have lb := lo_bd v
  have g2 : wrap32 v = v := by unfold wrap32; omega
  have g3 : wrap64 (wrap32 (v - l)) = wrap32 (v - l) := by unfold wrap64 wrap32; omega
  rw [hl] at c1 lb
  obtain ⟨l0, l1⟩ := lb
  clear hl
  obtain ⟨s0, s1⟩ := hm
  obtain ⟨i3, z3, hi3, hz3, hs3, hb3, hzs3⟩ := insn_info
  have HI : Hid (Tryd.prog.info? 29 = some i3 ∧ i3.zero = some z3 ∧ i3.size = 6 ∧ i3.bytes = 48 ∧ z3.cells.size = 6) := ⟨hi3, hz3, hs3, hb3, hzs3⟩
  clear hi3 hz3 hs3 hb3 hzs3
  have HO : Hid ((w.alloc (.cells #[.int .i64 1, .int .i64 rd, .int .i64 0, .int .i64 0, .int .i64 (wrap32 (v - l)), .int .i64 0] 29)).ownsRow w.heap.size 29 6 (.slice (some ⟨w.heap.size, 0, .none⟩) 1 1) 1 (ins 1 rd 0 (wrap32 (v - l)))) := own_new w w.heap.size 1 rd 0 (wrap32 (v - l)) (Nat.le_refl _)
  rcases hs with hs | hs
  all_goals
    by_cases hl : l = 0
    · subst hl
      go_enter Tryd.func6, Tryd.ntmps6
      go_wp2_with fail
      refine c1.mono ?_
      rintro e w1 ⟨rfl, rfl⟩
      clear c1
      go_wp2
      go_ret
      refine ⟨_, _, rfl, ?_, (Below.refl _ _).alloc (Nat.le_refl _) _⟩
      have := HO.out
      simpa [cs, lowI, g2] using this
    · have g4 : (l != 0) = true := by rw [bne_iff_ne]; exact hl
      have el : lowI 41 rd l = [(41, rd, l)] := by unfold lowI; rw [if_neg hl]
      rw [el]
      clear el hl
      go_enter Tryd.func6, Tryd.ntmps6
      go_wp2_with fail
      refine c1.mono ?_
      rintro e w1 ⟨rfl, rfl⟩
      clear c1
      go_wp2_with (first | (at_builtin; refine wpList_append_own _ rfl _ _ 23 rfl w1.heap.size 29 i3 z3 6 48 Tryd.underlying23 HI.out.1 HI.out.2.1 HI.out.2.2.1 HI.out.2.2.2.1 HI.out.2.2.2.2 (by decide) (.slice (some ⟨w1.heap.size, 0, .none⟩) 1 1) 1 (ins 1 rd 0 (wrap32 (v - l))) rfl (HO.out.alloc _) ⟨w1.heap.size + 1, 0, .none⟩ 1 1 (ins 41 rd rd l) rfl rfl ?c3 (ins_one _ _ _ _) ?c4 ?c5 ?c6 ?_) | go_in)
      case c3 => exact (by have := cells6_new (w1.alloc (.cells #[.int .i64 1, .int .i64 rd, .int .i64 0, .int .i64 0, .int .i64 (wrap32 (v - l)), .int .i64 0] 29)) 41 rd rd l 29; rw [World.size_alloc] at this; exact this)
      case c4 => simp only [maxLen]; omega
      case c5 => omega
      case c6 => simp only [World.size_alloc]; omega
      intro v' w2 own' grow fb
      clear fb
      obtain ⟨p', c', rfl⟩ := one_slice own'
      have HW : Hid (w2.ownsRow w1.heap.size 29 6 (.slice p' 2 c') 2 (ins 1 rd 0 (wrap32 (v - l)) ++ ins 41 rd rd l) ∧ Below w1.heap.size w1 w2) := ⟨own', below_append ((Below.refl _ _).alloc (Nat.le_refl _) _) _ grow (by simp only [World.size_alloc]; omega) (own_block HO.out)⟩
      clear own' grow
      go_wp2
      go_ret
      refine ⟨p', c', rfl, ?_, HW.out.2⟩
      have := HW.out.1
      simpa [cs] using this
end Go.Proofs.YtdkidhipiglbkaaDoor
