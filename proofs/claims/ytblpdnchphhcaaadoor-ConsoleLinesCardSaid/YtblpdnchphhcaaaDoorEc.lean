import Derived.Test.YtblpdnchphhcaaaDoorCx
import Derived.LoopTactic
namespace Go.Proofs.YtblpdnchphhcaaaDoor
open Go.RowKit
set_option linter.unusedVariables false
set_option linter.unusedSimpArgs false
/-- The screen. -/
def sst (s : List Int × Nat) (e : Int) : List Int × Nat := if e = 8 then (s.1, s.2 - 1) else if s.2 = s.1.length then (s.1 ++ [e], s.2 + 1) else (s.1.set s.2 e, s.2 + 1)
def sfo (E : List Int) (s : List Int × Nat) : List Int × Nat := E.foldl sst s
theorem sfo_app (E F : List Int) (s : List Int × Nat) : sfo (E ++ F) s = sfo F (sfo E s) := by simp [sfo]
theorem sfo_one (e : Int) (s : List Int × Nat) : sfo [e] s = sst s e := rfl
theorem sst_le (s : List Int × Nat) (e : Int) (h : s.2 ≤ s.1.length) : (sst s e).2 ≤ (sst s e).1.length := by
  unfold sst
  split
  · show s.2 - 1 ≤ s.1.length; omega
  · split
    · simp; omega
    · simp; omega
theorem sst_len (s : List Int × Nat) (e : Int) : (sst s e).1.length ≤ s.1.length + 1 := by
  unfold sst
  split
  · simp
  · split <;> simp
theorem sfo_le (E : List Int) : ∀ (s : List Int × Nat), s.2 ≤ s.1.length → (sfo E s).2 ≤ (sfo E s).1.length := by
  induction E with
  | nil => intro s h; exact h
  | cons e E ih => intro s h; exact ih (sst s e) (sst_le s e h)
theorem sfo_len (E : List Int) : ∀ (s : List Int × Nat), (sfo E s).1.length ≤ s.1.length + E.length := by
  induction E with
  | nil => intro s; simp [sfo]
  | cons e E ih =>
    intro s
    have h1 := ih (sst s e)
    have h2 := sst_len s e
    have e1 : sfo (e :: E) s = sfo E (sst s e) := rfl
    rw [e1, List.length_cons]
    omega
/-- The screen holds the line, and blanks. -/
structure Scr (ls : List Int) (s : List Int × Nat) : Prop where
  at_ : s.2 = ls.length
  le : s.2 ≤ s.1.length
  tk : ∀ (i : Nat) (x : Int), ls[i]? = some x → s.1[i]? = some x
  sp : ∀ (i : Nat) (y : Int), s.2 ≤ i → s.1[i]? = some y → y = 32
theorem Scr.plain {ls : List Int} {s : List Int × Nat} (h : Scr ls s) (x : Int) (hx : x ≠ 8) : Scr (ls ++ [x]) (sst s x) := by
  have h1 := h.at_
  have h2 := h.le
  unfold sst
  rw [if_neg hx]
  split
  · rename_i he
    refine ⟨by simp; omega, by simp; omega, fun i y hy => ?_, fun i y hi hy => ?_⟩
    · show (s.1 ++ [x])[i]? = some y
      by_cases hl : i < ls.length
      · rw [List.getElem?_append_left hl] at hy
        rw [List.getElem?_append_left (by omega)]
        exact h.tk i y hy
      · have := (List.getElem?_eq_some_iff.1 hy).1
        simp at this
        have e : i = ls.length := by omega
        rw [e, List.getElem?_append_right (Nat.le_refl _), Nat.sub_self] at hy
        rw [e, ← h1, he, List.getElem?_append_right (Nat.le_refl _), Nat.sub_self]
        exact hy
    · have := (List.getElem?_eq_some_iff.1 hy).1
      simp at this hi
      omega
  · rename_i he
    refine ⟨by simp; omega, by simp; omega, fun i y hy => ?_, fun i y hi hy => ?_⟩
    · show (s.1.set s.2 x)[i]? = some y
      by_cases hl : i < ls.length
      · rw [List.getElem?_append_left hl] at hy
        rw [List.getElem?_set_ne (by omega)]
        exact h.tk i y hy
      · have := (List.getElem?_eq_some_iff.1 hy).1
        simp at this
        have e : i = ls.length := by omega
        rw [e, List.getElem?_append_right (Nat.le_refl _), Nat.sub_self] at hy
        rw [e, ← h1, List.getElem?_set_self (by omega)]
        exact hy
    · have hi' : s.2 + 1 ≤ i := hi
      have hy' : (s.1.set s.2 x)[i]? = some y := hy
      rw [List.getElem?_set_ne (by omega)] at hy'
      exact h.sp i y (by omega) hy'
/-- No step goes back beyond the beginning. -/
def Gd (E : List Int) (s : List Int × Nat) : Prop := ∀ K, E[K]? = some 8 → 1 ≤ (sfo (E.take K) s).2
theorem Gd.app {E F : List Int} {s : List Int × Nat} (h : Gd E s) (k : Gd F (sfo E s)) : Gd (E ++ F) s := by
  intro K hK
  by_cases hl : K < E.length
  · rw [List.getElem?_append_left hl] at hK
    rw [List.take_append_of_le_length (by omega)]
    exact h K hK
  · rw [List.getElem?_append_right (by omega)] at hK
    have := k _ hK
    rw [← sfo_app] at this
    rw [List.take_append, List.take_of_length_le (by omega)]
    exact this
theorem Scr.back1 {ls : List Int} {s : List Int × Nat} (h : Scr ls s) (h0 : 0 < ls.length) : Scr (ls.take (ls.length - 1)) (sfo [8, 32, 8] s) ∧ Gd [8, 32, 8] s := by
  have h1 := h.at_
  have h2 := h.le
  have e1 : sst s 8 = (s.1, s.2 - 1) := by simp [sst]
  have e2 : sst (s.1, s.2 - 1) 32 = (s.1.set (s.2 - 1) 32, s.2 - 1 + 1) := by
    have : ¬ s.2 - 1 = s.1.length := by omega
    simp [sst, this]
  have e3 : sst (s.1.set (s.2 - 1) 32, s.2 - 1 + 1) 8 = (s.1.set (s.2 - 1) 32, s.2 - 1) := by simp [sst]
  have e4 : sfo [8, 32, 8] s = (s.1.set (s.2 - 1) 32, s.2 - 1) := by
    show sst (sst (sst s 8) 32) 8 = _
    rw [e1, e2, e3]
  refine ⟨?_, ?_⟩
  · rw [e4]
    refine ⟨by simp; omega, by simp; omega, fun i x hx => ?_, fun i y hi hy => ?_⟩
    · rw [List.getElem?_take] at hx
      split at hx
      · show (s.1.set (s.2 - 1) 32)[i]? = some x
        rw [List.getElem?_set_ne (by omega)]
        exact h.tk i x hx
      · cases hx
    · have hi' : s.2 - 1 ≤ i := hi
      have hy' : (s.1.set (s.2 - 1) 32)[i]? = some y := hy
      by_cases hii : i = s.2 - 1
      · rw [hii, List.getElem?_set_self (by omega)] at hy'
        exact (Option.some.inj hy').symm
      · rw [List.getElem?_set_ne (by omega)] at hy'
        exact h.sp i y (by omega) hy'
  · intro K hK
    match K, hK with
    | 0, hK => show 1 ≤ s.2; omega
    | 1, hK => simp at hK
    | 2, hK =>
      show 1 ≤ (sst (sst s 8) 32).2
      rw [e1, e2]
      show 1 ≤ s.2 - 1 + 1
      omega
theorem Scr.back {ls : List Int} {s : List Int × Nat} (h : Scr ls s) : ∀ n, n ≤ ls.length → Scr (ls.take (ls.length - n)) (sfo (bk n) s) ∧ Gd (bk n) s
  | 0, _ => ⟨by rw [Nat.sub_zero, List.take_length]; exact h, fun K hK => by simp [bk] at hK⟩
  | n + 1, hn => by
    obtain ⟨h1, h2⟩ := h.back n (by omega)
    have hl : (ls.take (ls.length - n)).length = ls.length - n := by rw [List.length_take]; omega
    obtain ⟨h3, h4⟩ := h1.back1 (by omega)
    rw [hl, List.take_take, show min (ls.length - n - 1) (ls.length - n) = ls.length - (n + 1) by omega] at h3
    rw [bk, sfo_app]
    exact ⟨h3, h2.app h4⟩
/-- A key, and the screen. -/
theorem scr_key {ls : List Int} {s : List Int × Nat} (h : Scr ls s) (x : Int) (hx : x ≠ 4 ∧ x ≠ 13 ∧ x ≠ 10 ∧ x ≠ 32) (hl : ls.length < 120) :
    Scr (tyL [] ls x) (sfo (tyE [] ls x) s) ∧ Gd (tyE [] ls x) s ∧ tyB [] ls x = false ∧ tyR [] ls x = [] ∧ (tyL [] ls x).length ≤ ls.length + 1 := by
  have hk : key x = x := by simp [key, hx.2.1]
  have nf : ¬ (128 ≤ ([] : List Int).length + ls.length) := by simp; omega
  have ng : ¬ (key x = 10 ∨ key x = 4 ∨ ([] : List Int).length + ls.length + 1 = 128) := by rw [hk]; simp; omega
  by_cases h1 : x = 21
  · have := h.back ls.length (Nat.le_refl _)
    rw [Nat.sub_self, List.take_zero] at this
    simp only [tyL, tyE, tyB, tyR, h1, if_pos, true_or]
    exact ⟨this.1, this.2, trivial, trivial, by simp⟩
  by_cases h2 : x = 8 ∨ x = 127
  · have e1 : tyL [] ls x = ls.take (ls.length - 1) := by unfold tyL; rw [if_neg h1, if_pos h2]
    have e2 : tyE [] ls x = bk (min 1 ls.length) := by unfold tyE; rw [if_neg h1, if_pos h2]
    have e3 : tyB [] ls x = false := by unfold tyB; rw [if_pos (by omega)]
    have e4 : tyR [] ls x = [] := by unfold tyR; rw [if_pos (by omega)]
    have := h.back (min 1 ls.length) (by omega)
    rw [e1, e2, e3, e4]
    rw [show ls.length - min 1 ls.length = ls.length - 1 by omega] at this
    exact ⟨this.1, this.2, rfl, rfl, by rw [List.length_take]; omega⟩
  by_cases h3 : x = 0
  · have e1 : tyL [] ls x = ls := by unfold tyL; rw [if_neg h1, if_neg h2, if_pos (.inl h3)]
    have e2 : tyE [] ls x = [] := by unfold tyE; rw [if_neg h1, if_neg h2, if_pos (.inl h3)]
    have e3 : tyB [] ls x = false := by unfold tyB; rw [if_pos (by omega)]
    have e4 : tyR [] ls x = [] := by unfold tyR; rw [if_pos (by omega)]
    rw [e1, e2, e3, e4]
    exact ⟨h, fun K hK => by simp at hK, rfl, rfl, by omega⟩
  have n3 : ¬ (x = 0 ∨ 128 ≤ ([] : List Int).length + ls.length) := by omega
  have n0 : ¬ (x = 21 ∨ x = 8 ∨ x = 127 ∨ x = 0 ∨ 128 ≤ ([] : List Int).length + ls.length) := by omega
  have e1 : tyL [] ls x = ls ++ [x] := by unfold tyL; rw [if_neg h1, if_neg h2, if_neg n3, if_neg ng, hk]
  have e2 : tyE [] ls x = [x] := by unfold tyE; rw [if_neg h1, if_neg h2, if_neg n3, hk, if_neg hx.1]
  have e3 : tyB [] ls x = false := by unfold tyB; rw [if_neg n0]; exact decide_eq_false ng
  have e4 : tyR [] ls x = [] := by unfold tyR; rw [if_neg n0, if_neg ng]
  rw [e1, e2, e3, e4]
  refine ⟨h.plain x (by omega), fun K hK => ?_, rfl, rfl, by simp⟩
  match K, hK with
  | 0, hK => simp at hK; omega
  | n + 1, hK => simp at hK

theorem by8_set (xs : List Int) (i : Nat) (x : Int) : (by8 xs).set i (.int .u8 x) = by8 (xs.set i x) := by
  unfold by8
  rw [List.map_set]
theorem fld1 (p1 p2 : Option Addr) (n1 c1 n2 c2 : Nat) (W : World) : (Instr.field 29 (.agg #[.slice p1 n1 c1, .slice p2 n2 c2]) 1).run Tryd.prog W = .ok (.slice p2 n2 c2) W := by kernel_rfl
theorem fld0 (p1 p2 : Option Addr) (n1 c1 n2 c2 : Nat) (W : World) : (Instr.field 29 (.agg #[.slice p1 n1 c1, .slice p2 n2 c2]) 0).run Tryd.prog W = .ok (.slice p1 n1 c1) W := by kernel_rfl
/-- The law's own: the console, its screen. -/
structure Ech (w wr : World) (b : Nat) (ls : List Int) (v : Value) (s : List Int × Nat) : Prop where
  con : Con wr b [] ls
  row : wr.ownsRow (w.heap.size + 1) 5 1 v s.1.length (by8 s.1)
  bel : Below w.heap.size w wr
  bb : b = w.heap.size
  dd : Dd wr
  lt : w.heap.size < wr.heap.size
theorem dd_below {w wr : World} (h : Dd w) (hb : Below w.heap.size w wr) : Dd wr := h.below hb
set_option maxHeartbeats 16000000 in
set_option maxRecDepth 100000 in
theorem echo_any {w : World} {p : Option Addr} {n c : Nat} {xs : List Int} (hB : Byt w p n c xs) (hx : ∀ x ∈ xs, 0 ≤ x ∧ x < 256) (hd : Dd w) :
    Calls Tryd.prog 3 #[.slice p n c] w fun e w' => e = .returned (.bool true) ∧ Below w.heap.size w w' := by
  have hl := hB.1
  have hnc := hB.2.1
  have hcm : c ≤ 9223372036854775807 := hB.2.2.1
  have HB : Hid (Byt w p n c xs) := hB
  have HX : Hid (∀ x ∈ xs, 0 ≤ x ∧ x < 256) := hx
  have HD : Hid (Dd w) := hd
  have HL : Hid (xs.length = n) := hl
  clear hB hx hd hl
  go_enter Tryd.func3, Tryd.ntmps3
  go_wp2_with fail
  refine (new_any w).mono ?_
  rintro e W1 ⟨rfl, hC, hb1⟩
  obtain ⟨b, hb⟩ : ∃ b, b = w.heap.size := ⟨_, rfl⟩
  have HE : Hid (Ech w W1 b [] (.slice none 0 0) ([], 0)) := ⟨by rw [hb]; exact hC, World.ownsRow_nil _ _ _ _, hb1, hb, dd_below HD.out hb1, by have := hC.lt; omega⟩
  rw [← hb]
  clear hC hb1 hb
  go_wp2
  go_loopw [4, 5, 6] (fun v4 v5 v6 wr => ∃ (I : Nat) (ls : List Int) (s : List Int × Nat), v6 = .int .i64 I ∧ I ≤ 120 ∧ I ≤ n ∧ v5 = .int .i64 s.2 ∧ (∃ q cq, v4 = .slice q s.1.length cq) ∧ Hid (Ech w wr b ls v4 s ∧ Scr ls s ∧ ls.length ≤ I ∧ s.1.length ≤ 384 * I)) (fun _ _ v6 _ => (120 - intOf v6).toNat)
  case atStart => exact ⟨0, [], ([], 0), rfl, by omega, by omega, rfl, ⟨none, 0, rfl⟩, HE.out, ⟨rfl, Nat.le_refl _, fun i x h => by simp at h, fun i y _ h => by simp at h⟩, by simp, by simp⟩
  case round =>
    clear HE
    obtain ⟨I, ls, s, rfl, hI, hIn, rfl, ⟨q, cq, rfl⟩, HH⟩ := hrel
    by_cases hlt : I < 120 ∧ I < n
    · have g1 : (I : Int) < 120 := by omega
      have g2 : (I : Int) < n := by omega
      have hb0 : ∃ bb oo, p = some ⟨bb, oo, .none⟩ ∧ bb < w.heap.size ∧ ∀ i x, xs[i]? = some x → w.cell? ⟨bb, oo + i, .none⟩ = some (.int .u8 x) := by
        rcases HB.out.2.2.2 with h0 | ⟨bb, oo, h1, h2, h3⟩
        · omega
        · exact ⟨bb, oo, h1, h2, h3⟩
      obtain ⟨bb, oo, rfl, hbb, hcl⟩ := hb0
      obtain ⟨x, hx⟩ : ∃ x, xs[I]? = some x := ⟨xs[I]'(by rw [HL.out]; omega), by simp⟩
      have a0 : wr.cell? ⟨bb, oo + I, .none⟩ = some (.int .u8 x) := (HH.out.1.bel.cell (p := ⟨bb, oo + I, .none⟩) hbb).trans (hcl I x hx)
      have hxb : 0 ≤ x ∧ x < 256 := HX.out x (List.mem_of_getElem? hx)
      have HBB : Hid (bb < w.heap.size) := hbb
      clear hcl hx hbb
      by_cases hsk : x = 4 ∨ x = 13 ∨ x = 10 ∨ x = 32
      · have fin : (∃ (I' : Nat) (ls : List Int) (s' : List Int × Nat), Value.int .i64 ((I : Int) + 1) = .int .i64 I' ∧ I' ≤ 120 ∧ I' ≤ n ∧ Value.int .i64 s.2 = .int .i64 s'.2 ∧ (∃ q' cq', Value.slice q s.1.length cq = .slice q' s'.1.length cq') ∧ Hid (Ech w wr b ls (.slice q s.1.length cq) s' ∧ Scr ls s' ∧ ls.length ≤ I' ∧ s'.1.length ≤ 384 * I')) := by
          have h := HH.out
          exact ⟨I + 1, ls, s, rfl, by omega, by omega, rfl, ⟨_, _, rfl⟩, h.1, h.2.1, by omega, by omega⟩
        have FIN := fin
        clear fin
        have F2 : Hid _ := FIN
        clear FIN
        rcases hsk with rfl | rfl | rfl | rfl
        all_goals (go_wp2; exact ⟨F2.out, by simp only [intOf]; omega⟩)
      · have i1 : (x == 4) = false := by simp; omega
        have i2 : (x == 13) = false := by simp; omega
        have i3 : (x == 10) = false := by simp; omega
        have i4 : (x == 32) = false := by simp; omega
        have hkey := scr_key HH.out.2.1 x (by omega) (by have := HH.out.2.2.1; omega)
        have HK : Hid (Scr (tyL [] ls x) (sfo (tyE [] ls x) s) ∧ Gd (tyE [] ls x) s ∧ (tyL [] ls x).length ≤ ls.length + 1 ∧ (tyE [] ls x).length ≤ 384) := ⟨hkey.1, hkey.2.1, hkey.2.2.2.2, tyE_len _ _ _ (by have := HH.out.2.2.1; simp; omega)⟩
        have c10 := type_any HH.out.1.con HH.out.1.dd x hxb
        rw [hkey.2.2.1, hkey.2.2.2.1] at c10
        have HEb : Hid (∀ y ∈ tyE [] ls x, 0 ≤ y ∧ y < 256) := tyE_byte _ _ _ hxb
        clear hkey hsk
        generalize tyE [] ls x = E at *
        generalize tyL [] ls x = L' at *
        go_wp2_with fail
        refine c10.mono ?_
        rintro e W2 ⟨pe, ce, rfl, hO, hC, hT⟩
        have H2 : Hid (Ech w W2 b L' (.slice q s.1.length cq) s ∧ Byt W2 pe E.length ce E ∧ (0 < E.length → ∀ g o, pe = some ⟨g, o, .none⟩ → (Value.slice q s.1.length cq).ownBlock ≠ some g ∧ g ≠ b)) := by
          have h := HH.out.1
          have hlt2 := own_ltC h.row
          have hbl := own_block h.row
          refine ⟨⟨hC, hT.own h.row (fun g hg e => ?_), h.bel.trans (hT.toBelow (by have := h.bb; omega) h.bel.size), h.bb, h.dd.keep (Chg.ofTrn hT) (fun e => (h.dd.ne h.con) e.symm), Nat.lt_of_lt_of_le h.lt hT.size⟩, byt_own hO, fun h0 g o hg => ?_⟩
          · have := hbl g hg
            have := h.bb
            omega
          · have hg2 : wr.heap.size ≤ g := by
              have := own_block hO g
              rw [hg] at this
              have := own_block hO
              obtain ⟨E', hE'⟩ : ∃ E', E.length = E' + 1 := ⟨E.length - 1, by omega⟩
              rw [hE'] at hO
              obtain ⟨g', hg'⟩ := own_some hO
              rw [hg] at hg'
              injection hg' with hg'
              injection hg' with h1 h2 h3
              have := own_block hO g (by rw [hg, h2]; rfl)
              exact this
            refine ⟨fun e => ?_, ?_⟩
            · have := hlt2 g e
              omega
            · have := h.con.lt
              omega
        have HS : Hid (s.1.length ≤ 384 * I ∧ ls.length ≤ I) := ⟨HH.out.2.2.2, HH.out.2.2.1⟩
        have HLE : Hid (s.2 ≤ s.1.length) := HH.out.2.1.le
        clear hO hC hT c10 a0 HH
        have hE8 : E.length ≤ 384 := HK.out.2.2.2
        go_wp2
        go_loopw [4, 5, 9] (fun v4 v5 v9 wx => ∃ (K : Nat) (t : List Int × Nat), v9 = .int .i64 K ∧ K ≤ E.length ∧ v5 = .int .i64 t.2 ∧ (∃ q' cq', v4 = .slice q' t.1.length cq') ∧ Hid (t = sfo (E.take K) s ∧ Ech w wx b L' v4 t ∧ Byt wx pe E.length ce E ∧ (0 < E.length → ∀ g o, pe = some ⟨g, o, .none⟩ → v4.ownBlock ≠ some g ∧ g ≠ b))) (fun _ _ v9 _ => (E.length - intOf v9).toNat)
        case atStart => exact ⟨0, s, rfl, Nat.zero_le _, rfl, ⟨_, _, rfl⟩, by rw [List.take_zero]; rfl, H2.out.1, H2.out.2.1, H2.out.2.2⟩
        case round =>
          clear H2
          obtain ⟨K, t, rfl, hK, rfl, ⟨q', cq', rfl⟩, HT⟩ := hrel
          by_cases hKE : K < E.length
          · have g3 : (K : Int) < E.length := by omega
            obtain ⟨y, hy⟩ : ∃ y, E[K]? = some y := ⟨E[K], by simp⟩
            obtain ⟨ge, oe, hpe, a1⟩ : ∃ ge oe, pe = some ⟨ge, oe, .none⟩ ∧ wr.cell? ⟨ge, oe + K, .none⟩ = some (.int .u8 y) := by
              rcases HT.out.2.2.1.2.2.2 with h0 | ⟨g, o, h1, _, h3⟩
              · omega
              · exact ⟨g, o, h1, h3 K y hy⟩
            subst hpe
            have htl : t.2 ≤ t.1.length := by rw [HT.out.1]; exact sfo_le _ _ HLE.out
            have htb : t.1.length ≤ 46848 := by
              have h1 := sfo_len (E.take K) s
              rw [← HT.out.1, List.length_take] at h1
              have := HS.out.1
              omega
            have HN : Hid (sst t y = sfo (E.take (K + 1)) s) := by
              show _ = _
              rw [← take_next hy, sfo_app, ← HT.out.1]
              rfl
            have hap : (Value.slice q' t.1.length cq').ownBlock ≠ some ge ∧ ge ≠ b := HT.out.2.2.2 (by omega) ge oe rfl
            have HAP : Hid ((Value.slice q' t.1.length cq').ownBlock ≠ some ge ∧ ge ≠ b) := hap
            have hcp : t.1.length ≤ cq' ∧ cq' ≤ 9223372036854775807 := by
              have := byt_own HT.out.2.1.row
              exact ⟨this.2.1, this.2.2.1⟩
            clear hap
            by_cases hy8 : y = 8
            · subst hy8
              have h1 := HK.out.2.1 K hy
              rw [← HT.out.1] at h1
              have e8 : sst t 8 = (t.1, t.2 - 1) := by simp [sst]
              have HN2 : Hid ((t.1, t.2 - 1) = sfo (E.take (K + 1)) s) := by show _ = _; rw [← e8]; exact HN.out
              have g4 : ¬ ((t.2 : Int) - 1 < 0) := by omega
              have g5 : ((t.2 - 1 : Nat) : Int) = (t.2 : Int) - 1 := by omega
              have G5 : Hid (((t.2 - 1 : Nat) : Int) = (t.2 : Int) - 1) := g5
              clear g5 e8 hy
              go_wp2
              exact ⟨⟨K + 1, (t.1, t.2 - 1), rfl, by omega, by rw [G5.out], ⟨_, _, rfl⟩, HN2.out, ⟨HT.out.2.1.con, HT.out.2.1.row, HT.out.2.1.bel, HT.out.2.1.bb, HT.out.2.1.dd, HT.out.2.1.lt⟩, HT.out.2.2.1, HT.out.2.2.2⟩, by simp only [intOf]; omega⟩
            · have j1 : (y == 8) = false := by simpa using hy8
              by_cases hend : t.2 = t.1.length
              · have g6 : ((t.2 : Int) == (t.1.length : Int)) = true := by simp [hend]
                have e8 : sst t y = (t.1 ++ [y], t.2 + 1) := by simp [sst, hy8, hend]
                have HN2 : Hid ((t.1 ++ [y], t.2 + 1) = sfo (E.take (K + 1)) s) := by show _ = _; rw [← e8]; exact HN.out
                clear e8 hy hy8 hend
                have BN := byt_own (own_one wr y)
                have bn := Trn.new wr (.cells #[.int .u8 y] 5)
                have RW : Hid ((wr.alloc (.cells #[.int .u8 y] 5)).ownsRow (w.heap.size + 1) 5 1 (.slice q' t.1.length cq') t.1.length (by8 t.1)) := HT.out.2.1.row.alloc _
                have BN2 : Hid (Byt (wr.alloc (.cells #[.int .u8 y] 5)) (some ⟨wr.heap.size, 0, .none⟩) 1 1 [y]) := BN
                have BL : Hid (Below wr.heap.size wr (wr.alloc (.cells #[.int .u8 y] 5))) := bn
                have z1 : w.heap.size + 1 ≤ (wr.alloc (.cells #[.int .u8 y] 5)).heap.size := by have := HT.out.2.1.lt; simp only [World.size_alloc]; omega
                clear BN bn
                go_wp2_with (first | (at_builtin; refine wpList_app rfl _ _ rfl (w.heap.size + 1) (.slice q' t.1.length cq') t.1.length t.1 rfl (some ⟨wr.heap.size, 0, .none⟩) 1 1 [y] rfl RW.out BN2.out ?c4 z1 ?_) | go_in)
                case c4 => omega
                intro v' W4 own4 grow4 sof4
                obtain ⟨p4, c4, rfl⟩ := one_slice own4
                have cg : Chg (fun k => (Value.slice q' t.1.length cq').ownBlock = some k) wr W4 := (Chg.ofBelow BL.out).trans (Chg.ofGrown grow4) (fun _ _ h => h)
                have H4 : Hid (Ech w W4 b L' (.slice p4 (t.1 ++ [y]).length c4) (t.1 ++ [y], t.2 + 1) ∧ Byt W4 (some ⟨ge, oe, .none⟩) E.length ce E ∧ (0 < E.length → ∀ g o, (some ⟨ge, oe, .none⟩ : Option Addr) = some ⟨g, o, .none⟩ → (Value.slice p4 (t.1 ++ [y]).length c4).ownBlock ≠ some g ∧ g ≠ b)) := by
                  have h := HT.out.2.1
                  have hbk := own_block h.row
                  have el : (t.1 ++ [y]).length = t.1.length + 1 := by simp
                  have hge : ge < wr.heap.size := lt_cell a1
                  refine ⟨⟨h.con.keep cg (fun e => ?_), by rw [el]; exact own4, h.bel.trans (cg.toTrn h.bel.size (fun k hk e => ?_)), h.bb, h.dd.keep cg (fun e => ?_), Nat.lt_of_lt_of_le h.lt cg.size⟩, cg.byt HT.out.2.2.1 (fun _ g o e1 e2 => ?_), fun h0 g o e => ?_⟩
                  · have := hbk _ e; have := h.bb; omega
                  · have := hbk _ e; omega
                  · have := hbk _ e; omega
                  · injection e1 with e1; injection e1 with e1; subst e1; exact HAP.out.1 e2
                  · injection e with e; injection e with e; subst e
                    refine ⟨fun e2 => ?_, HAP.out.2⟩
                    rw [el] at e2
                    rcases sof4 ge e2 with h1 | h1
                    · exact HAP.out.1 h1
                    · have := BL.out.size; omega
                clear own4 grow4 sof4 cg
                have el : t.1.length + 1 = (t.1 ++ [y]).length := by simp
                rw [el]
                go_wp2
                exact ⟨⟨K + 1, (t.1 ++ [y], t.2 + 1), rfl, by omega, rfl, ⟨_, _, rfl⟩, HN2.out, H4.out.1, H4.out.2.1, H4.out.2.2⟩, by simp only [intOf]; omega⟩
              · have g6 : ((t.2 : Int) == (t.1.length : Int)) = false := by simpa using (by omega : ¬ (t.2 : Int) = t.1.length)
                have e8 : sst t y = (t.1.set t.2 y, t.2 + 1) := by simp [sst, hy8, hend]
                have HN2 : Hid ((t.1.set t.2 y, t.2 + 1) = sfo (E.take (K + 1)) s) := by show _ = _; rw [← e8]; exact HN.out
                have hlt3 : t.2 < t.1.length := by omega
                clear e8 hy hy8
                obtain ⟨g, rfl⟩ : ∃ g, q' = some ⟨g, 0, .none⟩ := by
                  obtain ⟨m, hm⟩ : ∃ m, t.1.length = m + 1 := ⟨t.1.length - 1, by omega⟩
                  have := HT.out.2.1.row
                  rw [hm] at this
                  exact own_some this
                have a2 : ∃ v, wr.cell? ⟨g, t.2, .none⟩ = some v := by
                  have := World.ownsRow.cells HT.out.2.1.row (g := g) rfl t.2 _ (by8_get (x := t.1[t.2]) (by simp))
                  rw [le_addr_add, Nat.zero_add] at this
                  exact ⟨_, this⟩
                obtain ⟨v2, a2⟩ := a2
                have f2 : wr.frozen? ⟨g, t.2, .none⟩ = false := by
                  rcases HT.out.2.1.row.2 with ⟨h1, _⟩ | ⟨g', cap, cur, h1, _, h2, _⟩
                  · cases h1
                  · injection h1 with h1 _ _
                    injection h1 with h1
                    injection h1 with h1
                    subst h1
                    exact cur_froz h2 _
                have st := HT.out.2.1.row.stored t.2 (.int .u8 y)
                have H4 : Hid (Ech w (wr.setCell ⟨g, t.2, .none⟩ (.int .u8 y)) b L' (.slice (some ⟨g, 0, .none⟩) (t.1.set t.2 y).length cq') (t.1.set t.2 y, t.2 + 1) ∧ Byt (wr.setCell ⟨g, t.2, .none⟩ (.int .u8 y)) (some ⟨ge, oe, .none⟩) E.length ce E ∧ (0 < E.length → ∀ g' o, (some ⟨ge, oe, .none⟩ : Option Addr) = some ⟨g', o, .none⟩ → (Value.slice (some ⟨g, 0, .none⟩) (t.1.set t.2 y).length cq').ownBlock ≠ some g' ∧ g' ≠ b)) := by
                  have h := HT.out.2.1
                  have hbk := own_block h.row g rfl
                  have cg := chg_set g t.2 (.int .u8 y) wr
                  have el : (t.1.set t.2 y).length = t.1.length := by simp
                  have hgg : g ≠ ge := fun e => HAP.out.1 (by rw [← e]; rfl)
                  refine ⟨⟨h.con.keep cg (fun e => ?_), ?_, h.bel.trans (cg.toTrn h.bel.size (fun k hk e => ?_)), h.bb, h.dd.keep cg (fun e => ?_), Nat.lt_of_lt_of_le h.lt cg.size⟩, cg.byt HT.out.2.2.1 (fun _ g2 o e1 e2 => ?_), fun h0 g2 o e => ?_⟩
                  · have := h.bb; have e : b = g := e; omega
                  · have s1 := st.1
                    rw [by8_set] at s1
                    rw [el]
                    exact s1
                  · have e : k = g := e; omega
                  · have e : 0 = g := e; omega
                  · injection e1 with e1; injection e1 with e1; exact hgg (e2.symm.trans e1.symm)
                  · injection e with e; injection e with e; subst e
                    exact ⟨fun e2 => hgg (Option.some.inj e2), HAP.out.2⟩
                clear st
                have el : t.1.length = (t.1.set t.2 y).length := by simp
                have EL : Hid (t.1.length = (t.1.set t.2 y).length) := el
                clear el
                go_wp2
                exact ⟨⟨K + 1, (t.1.set t.2 y, t.2 + 1), rfl, by omega, rfl, ⟨_, _, by rw [EL.out]⟩, HN2.out, by rw [EL.out]; exact H4.out.1, H4.out.2.1, by rw [EL.out]; exact H4.out.2.2⟩, by simp only [intOf]; omega⟩
          · have hKe : K = E.length := by omega
            have g3 : ¬ (K : Int) < E.length := by omega
            have FIN : Hid (Ech w wr b L' (.slice q' t.1.length cq') t ∧ Scr L' t ∧ L'.length ≤ I + 1 ∧ t.1.length ≤ 384 * (I + 1)) := by
              have h1 := HT.out.1
              rw [hKe, List.take_length] at h1
              have h2 := sfo_len E s
              rw [← h1] at h2
              have h3 := HK.out
              rw [← h1] at h3
              have := HS.out
              exact ⟨HT.out.2.1, h3.1, by omega, by omega⟩
            clear hKe
            go_wp2
            exact ⟨⟨I + 1, L', t, rfl, by omega, by omega, rfl, ⟨_, _, rfl⟩, FIN.out⟩, by simp only [intOf]; omega⟩
    · have gq : (I : Int) < n → ¬ ((I : Int) < 120) := fun h1 h2 => hlt ⟨by omega, by omega⟩
      have hat : s.2 = ls.length := HH.out.2.1.at_
      rw [hat]
      have hle : ls.length ≤ s.1.length := by rw [← hat]; exact HH.out.2.1.le
      have htb : s.1.length ≤ 46080 := by have := HH.out.2.2.2; omega
      have HT1 : Hid (Byt wr q s.1.length cq s.1) := byt_own HH.out.1.row
      have hcq : s.1.length ≤ cq ∧ cq ≤ 9223372036854775807 := ⟨HT1.out.2.1, HT1.out.2.2.1⟩
      have ca := cutat q s.1.length cq
      have ct := cut_to q s.1.length cq ls.length (by omega)
      have HTK : Hid (s.1.take ls.length = ls) := by
        show _ = _
        apply List.ext_getElem?
        intro i
        by_cases hi : i < ls.length
        · rw [List.getElem?_take, if_pos hi, HH.out.2.1.tk i ls[i] (by simp)]
          simp
        · rw [List.getElem?_eq_none (by rw [List.length_take]; omega), List.getElem?_eq_none (by omega)]
      have HSP : Hid (∀ i y, ls.length ≤ i → s.1[i]? = some y → y = 32) := fun i y hi hy => HH.out.2.1.sp i y (by rw [hat]; exact hi) hy
      have hll : ls.length ≤ 120 := by have := HH.out.2.2.1; omega
      have HAT : Hid (s.2 = ls.length) := hat
      clear hat
      by_cases g120 : (I : Int) < n
      · have g121 := gq g120
        clear gq
        go_upto_region 24 with fail
        refine wp_region_held_drew (S := fun U => True) (by kernel_rfl) trivial (fun hHeld => ?_)
        refine wpAnyH_take (i := 0) (v := (.pointer (some ⟨b, 0, .none⟩))) rfl (by kernel_rfl) (by kernel_rfl) (by kernel_rfl) (fun _ _ _ h => h) (Or.inl ⟨by rfl, fun ww hSw => by (try dsimp only at hSw); go_simp⟩) (by assumption) ?_
        simp only [Act.put, List.setIfInBounds_toArray, List.set_cons_zero, List.set_cons_succ, List.getElem_toArray, List.getElem_cons_succ, List.getElem_cons_zero]
        refine wpAnyH_take (i := 3) (v := (.slice q s.1.length cq)) rfl (by kernel_rfl) (by kernel_rfl) (by kernel_rfl) (fun _ _ _ h => h) (Or.inl ⟨by rfl, fun ww hSw => by (try dsimp only at hSw); go_simp⟩) (by assumption) ?_
        simp only [Act.put, List.setIfInBounds_toArray, List.set_cons_zero, List.set_cons_succ, List.getElem_toArray, List.getElem_cons_succ, List.getElem_cons_zero]
        refine wpAnyH_take (i := 4) (v := (.int .i64 ls.length)) rfl (by kernel_rfl) (by kernel_rfl) (by kernel_rfl) (fun _ _ _ h => h) (Or.inl ⟨by rfl, fun ww hSw => by (try dsimp only at hSw); go_simp⟩) (by assumption) ?_
        simp only [Act.put, List.setIfInBounds_toArray, List.set_cons_zero, List.set_cons_succ, List.getElem_toArray, List.getElem_cons_succ, List.getElem_cons_zero]
        refine wpAnyH_take (i := 5) (v := (.slice (cutp q cq 0) ls.length cq)) rfl (by kernel_rfl) (by kernel_rfl) (by kernel_rfl) (fun _ _ _ h => h) (Or.inl ⟨by rfl, fun ww hSw => by (try dsimp only at hSw); go_simp⟩) (by assumption) ?_
        simp only [Act.put, List.setIfInBounds_toArray, List.set_cons_zero, List.set_cons_succ, List.getElem_toArray, List.getElem_cons_succ, List.getElem_cons_zero]
        refine wpAnyH_ready (rs := [1]) (by kernel_rfl) (by simp) ?_
        refine AllReadyH.cons rfl (fun K hK => ?_) AllReadyH.nil
        go_simp
        refine (state_any (w := wr.drew) (HH.out.1.con.drewN 1)).mono ?_
        rintro e V1 ⟨p1, d1, q2, d2, X, rfl, hO1, hO2, hX, hlX, hb1⟩
        have H1 : Hid (Byt V1 q2 ls.length d2 ls ∧ Below w.heap.size w V1 ∧ Byt V1 q s.1.length cq s.1) := ⟨byt_own hO2, HH.out.1.bel.trans (⟨hb1.os, hb1.tape, hb1.output, hb1.size, fun k hk => hb1.block k (by have := HH.out.1.bel.size; show k < wr.heap.size; omega)⟩ : Below w.heap.size wr V1), byt_below (w := wr.drew) HT1.out hb1⟩
        clear hO1 hO2 hX hlX hb1
        have fl := fld1 p1 q2 0 d1 ls.length d2
        refine hK.out _ _ trivial (fun hHeld => ?_)
        clear hK K
        try simp only [Act.put, List.setIfInBounds_toArray, List.set_cons_zero, List.set_cons_succ, List.getElem_toArray, List.getElem_cons_succ, List.getElem_cons_zero]
        refine wpAnyH_take (i := 2) (v := (.slice q2 ls.length d2)) rfl (by kernel_rfl) (by kernel_rfl) (by kernel_rfl) (fun _ _ _ h => h) (Or.inl ⟨by rfl, fun ww hSw => by (try dsimp only at hSw); go_simp⟩) (by assumption) ?_
        simp only [Act.put, List.setIfInBounds_toArray, List.set_cons_zero, List.set_cons_succ, List.getElem_toArray, List.getElem_cons_succ, List.getElem_cons_zero]
        refine wpAnyH_ready (rs := [6]) (by kernel_rfl) (by simp) ?_
        refine AllReadyH.cons rfl (fun K hK => ?_) AllReadyH.nil
        go_simp
        have B2 : Byt V1 (cutp q cq 0) ls.length cq ls := by
          have := byt_cut H1.out.2.2 0 ls.length (Nat.zero_le _) hle
          rw [HTK.out, List.drop_zero] at this
          exact this
        refine (bytes_any q2 (cutp q cq 0) ls.length d2 cq ls V1 (by omega) H1.out.1 B2).mono ?_
        rintro e V2 ⟨rfl, k, hk⟩
        have H2 : Hid (Below w.heap.size w V2 ∧ Byt V2 q s.1.length cq s.1) := by
          subst hk
          exact ⟨⟨H1.out.2.1.os, H1.out.2.1.tape, H1.out.2.1.output, H1.out.2.1.size, H1.out.2.1.block⟩, H1.out.2.2⟩
        clear hk B2 H1
        refine hK.out _ _ trivial (fun hHeld => ?_)
        clear hK K
        try simp only [Act.put, List.setIfInBounds_toArray, List.set_cons_zero, List.set_cons_succ, List.getElem_toArray, List.getElem_cons_succ, List.getElem_cons_zero]
        refine wpAnyH_take (i := 7) (v := (.bool false)) rfl (by kernel_rfl) (by kernel_rfl) (by kernel_rfl) (fun _ _ _ h => h) (Or.inl ⟨by rfl, fun ww hSw => by (try dsimp only at hSw); go_simp⟩) (by assumption) ?_
        simp only [Act.put, List.setIfInBounds_toArray, List.set_cons_zero, List.set_cons_succ, List.getElem_toArray, List.getElem_cons_succ, List.getElem_cons_zero]
        refine wpAnyH_done (by kernel_rfl) ?_ _
        go_wp2
        go_loopw [10] (fun v wx => ∃ K : Nat, v = .int .i64 K ∧ ls.length ≤ K ∧ K ≤ s.1.length ∧ wx = V2) (fun v _ => (s.1.length - intOf v).toNat)
        case atStart => exact ⟨ls.length, rfl, Nat.le_refl _, hle, rfl⟩
        case round =>
          obtain ⟨K, rfl, hK1, hK2, rfl⟩ := hrel
          by_cases hK : K < s.1.length
          · have g3 : (K : Int) < s.1.length := by omega
            obtain ⟨y, hy⟩ : ∃ y, s.1[K]? = some y := ⟨s.1[K], by simp⟩
            obtain ⟨ge, oe, hpe, a1⟩ : ∃ ge oe, q = some ⟨ge, oe, .none⟩ ∧ wr.cell? ⟨ge, oe + K, .none⟩ = some (.int .u8 y) := by
              rcases H2.out.2.2.2.2 with h0 | ⟨g, o, h1, _, h3⟩
              · omega
              · exact ⟨g, o, h1, h3 K y hy⟩
            have hy32 := HSP.out K y hK1 hy
            subst hpe
            subst hy32
            clear hy
            go_wp2
            exact ⟨⟨K + 1, rfl, by omega, by omega, (by first | rfl | trivial)⟩, by simp only [intOf]; omega⟩
          · have g3 : ¬ (K : Int) < s.1.length := by omega
            go_wp2
            go_ret
            exact ⟨rfl, H2.out.1⟩
      · clear gq
        go_upto_region 24 with fail
        refine wp_region_held_drew (S := fun U => True) (by kernel_rfl) trivial (fun hHeld => ?_)
        refine wpAnyH_take (i := 0) (v := (.pointer (some ⟨b, 0, .none⟩))) rfl (by kernel_rfl) (by kernel_rfl) (by kernel_rfl) (fun _ _ _ h => h) (Or.inl ⟨by rfl, fun ww hSw => by (try dsimp only at hSw); go_simp⟩) (by assumption) ?_
        simp only [Act.put, List.setIfInBounds_toArray, List.set_cons_zero, List.set_cons_succ, List.getElem_toArray, List.getElem_cons_succ, List.getElem_cons_zero]
        refine wpAnyH_take (i := 3) (v := (.slice q s.1.length cq)) rfl (by kernel_rfl) (by kernel_rfl) (by kernel_rfl) (fun _ _ _ h => h) (Or.inl ⟨by rfl, fun ww hSw => by (try dsimp only at hSw); go_simp⟩) (by assumption) ?_
        simp only [Act.put, List.setIfInBounds_toArray, List.set_cons_zero, List.set_cons_succ, List.getElem_toArray, List.getElem_cons_succ, List.getElem_cons_zero]
        refine wpAnyH_take (i := 4) (v := (.int .i64 ls.length)) rfl (by kernel_rfl) (by kernel_rfl) (by kernel_rfl) (fun _ _ _ h => h) (Or.inl ⟨by rfl, fun ww hSw => by (try dsimp only at hSw); go_simp⟩) (by assumption) ?_
        simp only [Act.put, List.setIfInBounds_toArray, List.set_cons_zero, List.set_cons_succ, List.getElem_toArray, List.getElem_cons_succ, List.getElem_cons_zero]
        refine wpAnyH_take (i := 5) (v := (.slice (cutp q cq 0) ls.length cq)) rfl (by kernel_rfl) (by kernel_rfl) (by kernel_rfl) (fun _ _ _ h => h) (Or.inl ⟨by rfl, fun ww hSw => by (try dsimp only at hSw); go_simp⟩) (by assumption) ?_
        simp only [Act.put, List.setIfInBounds_toArray, List.set_cons_zero, List.set_cons_succ, List.getElem_toArray, List.getElem_cons_succ, List.getElem_cons_zero]
        refine wpAnyH_ready (rs := [1]) (by kernel_rfl) (by simp) ?_
        refine AllReadyH.cons rfl (fun K hK => ?_) AllReadyH.nil
        go_simp
        refine (state_any (w := wr.drew) (HH.out.1.con.drewN 1)).mono ?_
        rintro e V1 ⟨p1, d1, q2, d2, X, rfl, hO1, hO2, hX, hlX, hb1⟩
        have H1 : Hid (Byt V1 q2 ls.length d2 ls ∧ Below w.heap.size w V1 ∧ Byt V1 q s.1.length cq s.1) := ⟨byt_own hO2, HH.out.1.bel.trans (⟨hb1.os, hb1.tape, hb1.output, hb1.size, fun k hk => hb1.block k (by have := HH.out.1.bel.size; show k < wr.heap.size; omega)⟩ : Below w.heap.size wr V1), byt_below (w := wr.drew) HT1.out hb1⟩
        clear hO1 hO2 hX hlX hb1
        have fl := fld1 p1 q2 0 d1 ls.length d2
        refine hK.out _ _ trivial (fun hHeld => ?_)
        clear hK K
        try simp only [Act.put, List.setIfInBounds_toArray, List.set_cons_zero, List.set_cons_succ, List.getElem_toArray, List.getElem_cons_succ, List.getElem_cons_zero]
        refine wpAnyH_take (i := 2) (v := (.slice q2 ls.length d2)) rfl (by kernel_rfl) (by kernel_rfl) (by kernel_rfl) (fun _ _ _ h => h) (Or.inl ⟨by rfl, fun ww hSw => by (try dsimp only at hSw); go_simp⟩) (by assumption) ?_
        simp only [Act.put, List.setIfInBounds_toArray, List.set_cons_zero, List.set_cons_succ, List.getElem_toArray, List.getElem_cons_succ, List.getElem_cons_zero]
        refine wpAnyH_ready (rs := [6]) (by kernel_rfl) (by simp) ?_
        refine AllReadyH.cons rfl (fun K hK => ?_) AllReadyH.nil
        go_simp
        have B2 : Byt V1 (cutp q cq 0) ls.length cq ls := by
          have := byt_cut H1.out.2.2 0 ls.length (Nat.zero_le _) hle
          rw [HTK.out, List.drop_zero] at this
          exact this
        refine (bytes_any q2 (cutp q cq 0) ls.length d2 cq ls V1 (by omega) H1.out.1 B2).mono ?_
        rintro e V2 ⟨rfl, k, hk⟩
        have H2 : Hid (Below w.heap.size w V2 ∧ Byt V2 q s.1.length cq s.1) := by
          subst hk
          exact ⟨⟨H1.out.2.1.os, H1.out.2.1.tape, H1.out.2.1.output, H1.out.2.1.size, H1.out.2.1.block⟩, H1.out.2.2⟩
        clear hk B2 H1
        refine hK.out _ _ trivial (fun hHeld => ?_)
        clear hK K
        try simp only [Act.put, List.setIfInBounds_toArray, List.set_cons_zero, List.set_cons_succ, List.getElem_toArray, List.getElem_cons_succ, List.getElem_cons_zero]
        refine wpAnyH_take (i := 7) (v := (.bool false)) rfl (by kernel_rfl) (by kernel_rfl) (by kernel_rfl) (fun _ _ _ h => h) (Or.inl ⟨by rfl, fun ww hSw => by (try dsimp only at hSw); go_simp⟩) (by assumption) ?_
        simp only [Act.put, List.setIfInBounds_toArray, List.set_cons_zero, List.set_cons_succ, List.getElem_toArray, List.getElem_cons_succ, List.getElem_cons_zero]
        refine wpAnyH_done (by kernel_rfl) ?_ _
        go_wp2
        go_loopw [10] (fun v wx => ∃ K : Nat, v = .int .i64 K ∧ ls.length ≤ K ∧ K ≤ s.1.length ∧ wx = V2) (fun v _ => (s.1.length - intOf v).toNat)
        case atStart => exact ⟨ls.length, rfl, Nat.le_refl _, hle, rfl⟩
        case round =>
          obtain ⟨K, rfl, hK1, hK2, rfl⟩ := hrel
          by_cases hK : K < s.1.length
          · have g3 : (K : Int) < s.1.length := by omega
            obtain ⟨y, hy⟩ : ∃ y, s.1[K]? = some y := ⟨s.1[K], by simp⟩
            obtain ⟨ge, oe, hpe, a1⟩ : ∃ ge oe, q = some ⟨ge, oe, .none⟩ ∧ wr.cell? ⟨ge, oe + K, .none⟩ = some (.int .u8 y) := by
              rcases H2.out.2.2.2.2 with h0 | ⟨g, o, h1, _, h3⟩
              · omega
              · exact ⟨g, o, h1, h3 K y hy⟩
            have hy32 := HSP.out K y hK1 hy
            subst hpe
            subst hy32
            clear hy
            go_wp2
            exact ⟨⟨K + 1, rfl, by omega, by omega, (by first | rfl | trivial)⟩, by simp only [intOf]; omega⟩
          · have g3 : ¬ (K : Int) < s.1.length := by omega
            go_wp2
            go_ret
            exact ⟨rfl, H2.out.1⟩
end Go.Proofs.YtblpdnchphhcaaaDoor
