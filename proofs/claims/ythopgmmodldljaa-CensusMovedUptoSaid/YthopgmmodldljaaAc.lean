import Derived.Test.YthopgmmodldljaaAb
namespace Go.Proofs.Ythopgmmodldljaa
open Go Go.RowKit
set_option linter.unusedVariables false
set_option linter.unusedSimpArgs false
theorem info_of (t : TypeId) (k b : Nat) (h1 : (Try.prog.info? t).map (fun i => (i.size, i.bytes)) = some (k, b)) (h2 : ((Try.prog.info? t).bind (·.zero)).map (·.cells.size) = some k) :
    ∃ i z, Try.prog.info? t = some i ∧ i.zero = some z ∧ i.size = k ∧ i.bytes = b ∧ z.cells.size = k := by
  cases hq : Try.prog.info? t with
  | none => simp [hq] at h1
  | some i =>
    cases hz : i.zero with
    | none => simp [hq, hz] at h2
    | some z =>
      simp [hq] at h1
      simp [hq, hz] at h2
      exact ⟨i, z, rfl, hz, h1.1, h1.2, h2⟩
/-! Rows of one's own, in blocks of their own. -/
structure Row where
  e : Nat
  sz : Nat
  n : Nat
  v : Value
  xs : List Value
def blks (R : List Row) : List Nat := R.filterMap (·.v.ownBlock)
structure Owns (w : World) (base : Nat) (R : List Row) : Prop where
  own : ∀ r ∈ R, w.ownsRow base r.e r.sz r.v r.n r.xs
  nd : (blks R).Nodup
theorem own_mono {w : World} {b b' e k n : Nat} {v : Value} {xs : List Value} (h : w.ownsRow b e k v n xs) (hb : b' ≤ b) : w.ownsRow b' e k v n xs := by
  obtain ⟨h1, h2⟩ := h
  refine ⟨h1, h2.imp id ?_⟩
  rintro ⟨g, cap, cur, hv, hbg, r⟩
  exact ⟨g, cap, cur, hv, Nat.le_trans hb hbg, r⟩
theorem own_bel {w w' : World} {base e k n B : Nat} {v : Value} {xs : List Value} (h : w.ownsRow base e k v n xs) (hb : Below B w w') (hB : ∀ g, v.ownBlock = some g → g < B) : w'.ownsRow base e k v n xs := by
  obtain ⟨h1, h2⟩ := h
  refine ⟨h1, h2.imp id ?_⟩
  rintro ⟨g, cap, cur, rfl, hbg, hg, r⟩
  exact ⟨g, cap, cur, rfl, hbg, (hb.block g (hB g rfl)).trans hg, r⟩
theorem own_form {w : World} {base e n sz : Nat} {m : Value} {zs : List Value} (h : w.ownsRow base e sz m n zs) : ∃ p c, m = .slice p n c := by
  rcases h.2 with ⟨rfl, h0⟩ | ⟨g, cap, cur, rfl, _⟩
  · exact ⟨none, 0, by rw [h0]⟩
  · exact ⟨_, _, rfl⟩
theorem Owns.nil (w : World) (base : Nat) : Owns w base [] := ⟨fun r h => (nomatch h), List.nodup_nil⟩
theorem Owns.keep {w w' : World} {base : Nat} {R : List Row} (h : Owns w base R) (hb : Below w.heap.size w w') : Owns w' base R :=
  ⟨fun r hr => own_bel (h.own r hr) hb (fun g hg => ((h.own r hr).lt g hg).2), h.nd⟩
theorem Owns.lt {w : World} {base : Nat} {R : List Row} (h : Owns w base R) : ∀ g ∈ blks R, base ≤ g ∧ g < w.heap.size := by
  intro g hg
  obtain ⟨r, hr, hv⟩ := List.mem_filterMap.1 hg
  exact (h.own r hr).lt g hv
/-- One row more, made by a call. -/
theorem Owns.push {w w' : World} {base : Nat} {R : List Row} (h : Owns w base R) (hb : Below w.heap.size w w') {r : Row} (hr : w'.ownsRow w.heap.size r.e r.sz r.v r.n r.xs) (hB : base ≤ w.heap.size) : Owns w' base (r :: R) := by
  refine ⟨fun q hq => ?_, ?_⟩
  · rcases List.mem_cons.1 hq with rfl | hq
    · exact own_mono hr hB
    · exact (h.keep hb).own q hq
  · unfold blks
    rw [List.filterMap_cons]
    cases hv : r.v.ownBlock with
    | none => exact h.nd
    | some g =>
      refine List.nodup_cons.2 ⟨fun hm => ?_, h.nd⟩
      have h1 := (h.lt g hm).2
      have h2 := (hr.lt g hv).1
      omega
/-- An append to the first row. -/
theorem Owns.app {w w' : World} {base : Nat} {R : List Row} {r r' : Row} (h : Owns w base (r :: R)) (hr : w'.ownsRow base r'.e r'.sz r'.v r'.n r'.xs) (hg : w.grownBy w' r.v.ownBlock) (hv : r'.v.ownBlock = r.v.ownBlock ∨ r'.v.ownBlock = some w.heap.size) : Owns w' base (r' :: R) := by
  have hR : ∀ q ∈ R, q.v.ownBlock = none ∨ q.v.ownBlock ≠ r.v.ownBlock := by
    intro q hq
    cases hb : q.v.ownBlock with
    | none => exact .inl rfl
    | some g =>
      refine .inr fun e => ?_
      have hn := h.nd
      unfold blks at hn
      rw [List.filterMap_cons, ← e] at hn
      exact (List.nodup_cons.1 hn).1 (List.mem_filterMap.2 ⟨q, hq, hb⟩)
  have hnd : (blks R).Nodup := by
    have hn := h.nd
    unfold blks at hn ⊢
    rw [List.filterMap_cons] at hn
    split at hn
    · exact hn
    · exact (List.nodup_cons.1 hn).2
  refine ⟨fun q hq => ?_, ?_⟩
  · rcases List.mem_cons.1 hq with rfl | hq
    · exact hr
    · exact (h.own q (by simp [hq])).kept hg (hR q hq)
  · unfold blks
    rw [List.filterMap_cons]
    cases hb : r'.v.ownBlock with
    | none => exact hnd
    | some g =>
      refine List.nodup_cons.2 ⟨fun hm => ?_, hnd⟩
      obtain ⟨q, hq, hqg⟩ := List.mem_filterMap.1 hm
      rcases hv with e | e
      · rcases hR q hq with e1 | e1
        · rw [e1] at hqg; cases hqg
        · exact e1 (by rw [hqg, ← e, hb])
      · have h1 := ((h.own q (by simp [hq])).lt g hqg).2
        rw [hb] at e
        injection e with e
        omega
theorem Owns.perm {w : World} {base : Nat} {R R' : List Row} (h : Owns w base R) (hp : R.Perm R') : Owns w base R' :=
  ⟨fun r hr => h.own r (hp.mem_iff.2 hr), (hp.filterMap _).nodup_iff.1 h.nd⟩
theorem Owns.sub {w : World} {base : Nat} {R R' : List Row} (h : Owns w base R) (hp : R'.Sublist R) : Owns w base R' :=
  ⟨fun r hr => h.own r (hp.subset hr), (hp.filterMap _).nodup h.nd⟩
theorem words_info : ∃ i z, Try.prog.info? 24 = some i ∧ i.zero = some z ∧ i.size = 1 ∧ i.bytes = 8 ∧ z.cells.size = 1 := info_of 24 1 8 (by kernel_rfl) (by kernel_rfl)
set_option maxRecDepth 100000 in
set_option maxHeartbeats 1000000 in
theorem words_any {w : World} {X : Nat} {v : Value} {l : List Int} (h : Sl w X 1 (qI .u64) v l) (hX : X ≤ w.heap.size) (hn : l.length ≤ 1048576) : Calls Try.prog 13 #[v] w fun e w' => ∃ u, e = .returned u ∧ w'.ownsRow w.heap.size 24 1 u l.length (l.map (.int .u64)) ∧ Below w.heap.size w w' := by
  obtain ⟨p, c, rfl⟩ := h.form
  have HSL : Hid (Sl w X 1 (qI .u64) (.slice p l.length c) l) := h
  clear h
  obtain ⟨i3, z3, hi3, hz3, hs3, hb3, hzs3⟩ := words_info
  obtain ⟨n, hnl⟩ : ∃ n, n = l.length := ⟨_, rfl⟩
  rw [← hnl] at HSL hn ⊢
  have HNL : Hid (n = l.length) := hnl
  clear hnl
  go_enter Try.func13, Try.ntmps13
  go_wp2
  go_loopw [3, 4] (fun u v wr => ∃ (i : Nat), i ≤ n ∧ v = .int .i64 i ∧ Hid (wr.ownsRow w.heap.size 24 1 u i ((l.take i).map (.int .u64)) ∧ Below w.heap.size w wr)) (fun _ v _ => (n - intOf v).toNat)
  case atStart => exact ⟨0, by omega, rfl, by simpa using World.ownsRow_nil _ _ _ _, Below.refl _ _⟩
  case round =>
    obtain ⟨i, hi, rfl, HB⟩ := hrel
    by_cases hin : i < n
    · have i1 : (i : Int) < n := by omega
      obtain ⟨-, b, o, x, cs, rfl, hbX, hx, hq, hcl, hr⟩ := HSL.out.at hin
      obtain rfl := hq
      have k0 := (HB.out.2.cell (p := ⟨b, o + i, .none⟩) (by show b < _; omega)).trans (by simpa using hr 0 _ rfl)
      have HE : Hid ((l.take (i + 1)).map (Value.int .u64) = (l.take i).map (Value.int .u64) ++ [.int .u64 x]) := by
        show _ = _
        rw [List.take_add_one, hx]
        simp
      clear hr hcl hbX hx
      have HRow : Hid (∀ o, (wr.alloc o).ownsRow w.heap.size 24 1 u3 i ((l.take i).map (.int .u64))) := fun o => World.ownsRow.alloc HB.out.1 o
      go_wp2_with (first | (at_builtin; refine wpList_append_own _ rfl _ _ 34 rfl w.heap.size 24 i3 z3 1 8 Try.underlying34 hi3 hz3 hs3 hb3 hzs3 (by decide) _ i ((l.take i).map (.int .u64)) rfl (HRow.out _) ⟨wr.heap.size, 0, .none⟩ 1 1 [.int .u64 x] rfl rfl (cell_one_new _ _ _) (by simp [Value.oneCell']) (by unfold maxLen; omega) (by omega) (by simp only [World.size_alloc]; exact Nat.le_succ_of_le HB.out.2.size) ?_; intro v' w5 hown5 hgrow _) | fail)
      have hBA : Below w.heap.size w (wr.alloc (.cells #[.int .u64 x] 24)) := HB.out.2.alloc HB.out.2.size _
      have hB5 : Below w.heap.size w w5 := hBA.grown hgrow hBA.size (fun k hk => ((HRow.out (.cells #[.int .u64 x] 24)).lt k hk).1)
      refine ⟨⟨i + 1, by omega, by go_num, ?_, hB5⟩, by simp [intOf]; omega⟩
      rw [HE.out]
      exact hown5
    · have i1 : ¬ (i : Int) < n := by omega
      obtain rfl : i = n := by omega
      have HQ : Hid (wr.ownsRow w.heap.size 24 1 u3 i (l.map (.int .u64))) := by
        have := HB.out.1
        rw [HNL.out, List.take_length, ← HNL.out] at this
        exact this
      go_wp2
      go_ret
      exact ⟨_, rfl, HQ.out, HB.out.2⟩
theorem bytes_info : ∃ i z, Try.prog.info? 5 = some i ∧ i.zero = some z ∧ i.size = 1 ∧ i.bytes = 1 ∧ z.cells.size = 1 := info_of 5 1 1 (by kernel_rfl) (by kernel_rfl)
set_option maxRecDepth 100000 in
set_option maxHeartbeats 1000000 in
theorem bytes_any {w : World} {X : Nat} {v : Value} {l : List Int} (h : Sl w X 1 (qI .u8) v l) (hX : X ≤ w.heap.size) (hn : l.length ≤ 1048576) : Calls Try.prog 36 #[v] w fun e w' => ∃ u, e = .returned u ∧ w'.ownsRow w.heap.size 5 1 u l.length (l.map (.int .u8)) ∧ Below w.heap.size w w' := by
  obtain ⟨p, c, rfl⟩ := h.form
  have HSL : Hid (Sl w X 1 (qI .u8) (.slice p l.length c) l) := h
  clear h
  obtain ⟨i3, z3, hi3, hz3, hs3, hb3, hzs3⟩ := bytes_info
  obtain ⟨n, hnl⟩ : ∃ n, n = l.length := ⟨_, rfl⟩
  rw [← hnl] at HSL hn ⊢
  have HNL : Hid (n = l.length) := hnl
  clear hnl
  go_enter Try.func36, Try.ntmps36
  go_wp2
  go_loopw [3, 4] (fun u v wr => ∃ (i : Nat), i ≤ n ∧ v = .int .i64 i ∧ Hid (wr.ownsRow w.heap.size 5 1 u i ((l.take i).map (.int .u8)) ∧ Below w.heap.size w wr)) (fun _ v _ => (n - intOf v).toNat)
  case atStart => exact ⟨0, by omega, rfl, by simpa using World.ownsRow_nil _ _ _ _, Below.refl _ _⟩
  case round =>
    obtain ⟨i, hi, rfl, HB⟩ := hrel
    by_cases hin : i < n
    · have i1 : (i : Int) < n := by omega
      obtain ⟨-, b, o, x, cs, rfl, hbX, hx, hq, hcl, hr⟩ := HSL.out.at hin
      obtain rfl := hq
      have k0 := (HB.out.2.cell (p := ⟨b, o + i, .none⟩) (by show b < _; omega)).trans (by simpa using hr 0 _ rfl)
      have HE : Hid ((l.take (i + 1)).map (Value.int .u8) = (l.take i).map (Value.int .u8) ++ [.int .u8 x]) := by
        show _ = _
        rw [List.take_add_one, hx]
        simp
      clear hr hcl hbX hx
      have HRow : Hid (∀ o, (wr.alloc o).ownsRow w.heap.size 5 1 u3 i ((l.take i).map (.int .u8))) := fun o => World.ownsRow.alloc HB.out.1 o
      go_wp2_with (first | (at_builtin; refine wpList_append_own _ rfl _ _ 29 rfl w.heap.size 5 i3 z3 1 1 Try.underlying29 hi3 hz3 hs3 hb3 hzs3 (by decide) _ i ((l.take i).map (.int .u8)) rfl (HRow.out _) ⟨wr.heap.size, 0, .none⟩ 1 1 [.int .u8 x] rfl rfl (cell_one_new _ _ _) (by simp [Value.oneCell']) (by unfold maxLen; omega) (by omega) (by simp only [World.size_alloc]; exact Nat.le_succ_of_le HB.out.2.size) ?_; intro v' w5 hown5 hgrow _) | fail)
      have hBA : Below w.heap.size w (wr.alloc (.cells #[.int .u8 x] 5)) := HB.out.2.alloc HB.out.2.size _
      have hB5 : Below w.heap.size w w5 := hBA.grown hgrow hBA.size (fun k hk => ((HRow.out (.cells #[.int .u8 x] 5)).lt k hk).1)
      refine ⟨⟨i + 1, by omega, by go_num, ?_, hB5⟩, by simp [intOf]; omega⟩
      rw [HE.out]
      exact hown5
    · have i1 : ¬ (i : Int) < n := by omega
      obtain rfl : i = n := by omega
      have HQ : Hid (wr.ownsRow w.heap.size 5 1 u3 i (l.map (.int .u8))) := by
        have := HB.out.1
        rw [HNL.out, List.take_length, ← HNL.out] at this
        exact this
      go_wp2
      go_ret
      exact ⟨_, rfl, HQ.out, HB.out.2⟩
end Go.Proofs.Ythopgmmodldljaa
