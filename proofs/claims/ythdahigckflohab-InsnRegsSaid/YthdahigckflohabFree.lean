import Derived.Test.YthdahigckflohabKeep
import Derived.Test.YthdahigckflohabRows
import Derived.WalkKit
import Derived.WalkSpells
import Derived.RowKit3
import Derived.Deep.Cut
import Derived.LoopTactic
import Derived.Below
import Derived.Laws.NewBlocks
import Derived.OwnWalk
import Derived.Deep.QuietTactic
import Derived.BigQuiet
import Derived.WalkSmall
namespace Go.Proofs.Ythdahigckflohab
open Go.RowKit
set_option linter.unusedVariables false
set_option linter.unusedSimpArgs false
theorem info_of (t : TypeId) (b : Nat) (h1 : (Try.prog.info? t).map (fun i => (i.size, i.bytes)) = some (1, b)) (h2 : ((Try.prog.info? t).bind (·.zero)).map (·.cells.size) = some 1) :
    ∃ i z, Try.prog.info? t = some i ∧ i.zero = some z ∧ i.size = 1 ∧ i.bytes = b ∧ z.cells.size = 1 := by
  cases hi : Try.prog.info? t with
  | none => rw [hi] at h1; cases h1
  | some i =>
    rw [hi] at h1 h2
    simp only [Option.map_some, Option.some.injEq, Prod.mk.injEq, Option.bind_some] at h1 h2
    cases hz : i.zero with
    | none => rw [hz] at h2; cases h2
    | some z =>
      rw [hz] at h2
      exact ⟨i, z, rfl, hz, h1.1, h1.2, by simpa using h2⟩
theorem int_info : ∃ i z, Try.prog.info? 3 = some i ∧ i.zero = some z ∧ i.size = 1 ∧ i.bytes = 8 ∧ z.cells.size = 1 := info_of 3 8 (by kernel_rfl) (by kernel_rfl)
theorem row_info : ∃ i z, Try.prog.info? 29 = some i ∧ i.zero = some z ∧ i.size = 1 ∧ i.bytes = 24 ∧ z.cells.size = 1 := info_of 29 24 (by kernel_rfl) (by kernel_rfl)
/-- Two rows of numbers that the call owns, and what else is as it was. -/
structure Fr (base n : Nat) (va vb : Value) (w wr : World) (xs ys : List Value) : Prop where
  rowA : wr.ownsRow base 3 1 va n xs
  rowB : wr.ownsRow base 3 1 vb n ys
  os : wr.os = w.os
  tape : wr.tape = w.tape
  output : wr.output = w.output
  size : w.heap.size ≤ wr.heap.size
  block : ∀ k, k < w.heap.size → some k ≠ va.ownBlock → some k ≠ vb.ownBlock → wr.heap[k]? = w.heap[k]?
theorem Fr.cell {base n : Nat} {va vb : Value} {w wr : World} {xs ys : List Value} (h : Fr base n va vb w wr xs ys) (b o : Nat) (hb : b < w.heap.size) (ha : va.ownBlock ≠ some b) (hv : vb.ownBlock ≠ some b) : wr.cell? ⟨b, o, .none⟩ = w.cell? ⟨b, o, .none⟩ :=
  World.cell?_of_block (h.block b hb (fun e => ha e.symm) (fun e => hv e.symm))
theorem Fr.setA {base n g ca : Nat} {vb : Value} {w wr : World} {xs ys : List Value} (h : Fr base n (.slice (some ⟨g, 0, .none⟩) n ca) vb w wr xs ys) (hap : vb.ownBlock ≠ some g) (j : Nat) (u : Value) :
    Fr base n (.slice (some ⟨g, 0, .none⟩) n ca) vb w (wr.setCell ⟨g, j, .none⟩ u) (xs.set j u) ys := by
  obtain ⟨s1, s2⟩ := h.rowA.stored j u
  refine ⟨s1, h.rowB.kept s2 (.inr hap), s2.os.trans h.os, s2.tape.trans h.tape, s2.output.trans h.output, Nat.le_trans h.size s2.size, fun k hk h1 h2 => ?_⟩
  rw [s2.block k (Nat.lt_of_lt_of_le hk h.size) h1]
  exact h.block k hk h1 h2
theorem Fr.setB {base n g cb : Nat} {va : Value} {w wr : World} {xs ys : List Value} (h : Fr base n va (.slice (some ⟨g, 0, .none⟩) n cb) w wr xs ys) (hap : va.ownBlock ≠ some g) (j : Nat) (u : Value) :
    Fr base n va (.slice (some ⟨g, 0, .none⟩) n cb) w (wr.setCell ⟨g, j, .none⟩ u) xs (ys.set j u) := by
  obtain ⟨s1, s2⟩ := h.rowB.stored j u
  refine ⟨h.rowA.kept s2 (.inr hap), s1, s2.os.trans h.os, s2.tape.trans h.tape, s2.output.trans h.output, Nat.le_trans h.size s2.size, fun k hk h1 h2 => ?_⟩
  rw [s2.block k (Nat.lt_of_lt_of_le hk h.size) h2]
  exact h.block k hk h1 h2
theorem set_first (xs : List Value) (k n : Nat) (u : Value) (hl : xs.length = n) (hk : k < n) (h : ∀ j, j < k → xs[j]? = some u) : ∀ j, j < k + 1 → (xs.set k u)[j]? = some u := by
  intro j hj
  by_cases e : j = k
  · subst e; rw [List.getElem?_set_self (by omega)]
  · rw [List.getElem?_set_ne (by omega)]; exact h j (by omega)
/-- The shape of a row: nil, or the head of a block. -/
theorem row_shape {w : World} {base e n : Nat} {p : Option Addr} {c : Nat} {xs : List Value} (h : w.ownsRow base e 1 (.slice p n c) n xs) (hn : 0 < n) : ∃ g, p = some ⟨g, 0, .none⟩ ∧ base ≤ g ∧ g < w.heap.size := by
  rcases h.2 with ⟨_, h0⟩ | ⟨g, cap, cur, hv, hb, hg, _⟩
  · omega
  · simp only [Value.slice.injEq] at hv
    exact ⟨g, hv.1, hb, (Array.getElem?_eq_some_iff.1 hg).1⟩
theorem Fr.alloc {base n : Nat} {va vb : Value} {w wr : World} {xs ys : List Value} (h : Fr base n va vb w wr xs ys) (o : Obj) : Fr base n va vb w (wr.alloc o) xs ys :=
  ⟨h.rowA.alloc o, h.rowB.alloc o, h.os, h.tape, h.output, by simp only [World.size_alloc]; have := h.size; omega, fun k hk h1 h2 => (Below.heap_alloc wr o k (Nat.lt_of_lt_of_le hk h.size)).trans (h.block k hk h1 h2)⟩
/-- The row of the running slice: one of the two, or new. -/
def Blk (S : Nat) (v m : Value) : Prop := m.ownBlock = v.ownBlock ∨ ∃ b, m.ownBlock = some b ∧ S ≤ b
theorem Fr.grown {base n : Nat} {va vb m : Value} {w w1 w2 : World} {xs ys : List Value} (h : Fr base n va vb w w1 xs ys) (hg : w1.grownBy w2 m.ownBlock) (hm : Blk w.heap.size va m ∨ Blk w.heap.size vb m ∨ Blk w.heap.size (.slice none 0 0) m)
    (kA : w2.ownsRow base 3 1 va n xs) (kB : w2.ownsRow base 3 1 vb n ys) : Fr base n va vb w w2 xs ys := by
  refine ⟨kA, kB, hg.os.trans h.os, hg.tape.trans h.tape, hg.output.trans h.output, Nat.le_trans h.size hg.size, fun k hk h1 h2 => ?_⟩
  rw [hg.block k (Nat.lt_of_lt_of_le hk h.size) (fun e => ?_)]
  · exact h.block k hk h1 h2
  · rcases hm with (hm | ⟨b, hm, hb⟩) | (hm | ⟨b, hm, hb⟩) | (hm | ⟨b, hm, hb⟩)
    · exact h1 (e.trans hm)
    · rw [hm] at e; simp only [Option.some.injEq] at e; omega
    · exact h2 (e.trans hm)
    · rw [hm] at e; simp only [Option.some.injEq] at e; omega
    · rw [hm] at e; simp [Value.ownBlock] at e
    · rw [hm] at e; simp only [Option.some.injEq] at e; omega
theorem Blk.next {S : Nat} {v m m' : Value} {w1 : World} (h : Blk S v m) (hs : S ≤ w1.heap.size) (hf : ∃ b, m'.ownBlock = some b ∧ (m.ownBlock = some b ∨ w1.heap.size ≤ b)) : Blk S v m' := by
  obtain ⟨b, hb, hf⟩ := hf
  rcases hf with hf | hf
  · rcases h with h | ⟨c, hc, hS⟩
    · exact .inl (by rw [hb, ← hf, h])
    · exact .inr ⟨b, hb, by rw [hc] at hf; simp only [Option.some.injEq] at hf; omega⟩
  · exact .inr ⟨b, hb, by omega⟩
/-- Rows of unlike kinds are apart. -/
theorem kinds_apart {w : World} {base : Nat} {v m : Value} {n k : Nat} {xs ys : List Value} {e e' : TypeId} (hv : w.ownsRow base e 1 v n xs) (hm : w.ownsRow base e' 1 m k ys) (hee : e ≠ e') : v.ownBlock = none ∨ v.ownBlock ≠ m.ownBlock := by
  rcases hv.2 with ⟨rfl, _⟩ | ⟨g, cap, cur, rfl, _, hg, _⟩
  · exact .inl rfl
  · rcases hm.2 with ⟨rfl, _⟩ | ⟨g', cap', cur', rfl, _, hg', _⟩
    · exact .inr (by simp [Value.ownBlock])
    · refine .inr (fun e => ?_)
      simp only [Value.ownBlock, Option.some.injEq] at e
      subst e
      rw [hg] at hg'
      simp only [Option.some.injEq, Obj.cells.injEq] at hg'
      exact hee hg'.2.1
def RowM (base n : Nat) (wr : World) (m : Value) (u : Int) : Prop := ∃ zs, wr.ownsRow base 3 1 m (n + 64) zs ∧ ∀ j, j < 64 → zs[n + j]? = some (.int .i64 u)
theorem app_zs (zs : List Value) (n K : Nat) (u : Value) (hl : zs.length = n + K) (h : ∀ j, j < K → zs[n + j]? = some u) : ∀ j, j < K + 1 → (zs ++ [u])[n + j]? = some u := by
  intro j hj
  by_cases e : j = K
  · subst e; rw [List.getElem?_append_right (by omega)]; simp [hl]
  · rw [List.getElem?_append_left (by omega)]; exact h j (by omega)
theorem RowM.moved {base n : Nat} {w w2 : World} {m mo : Value} {u : Int} {k : Nat} {ms : List Value} (h : RowM base n w m u) (hM : w.ownsRow base 29 1 mo k ms) (hg : w.grownBy w2 mo.ownBlock) : RowM base n w2 m u := by
  obtain ⟨zs, h1, h2⟩ := h
  exact ⟨zs, h1.kept hg (kinds_apart h1 hM (by decide)), h2⟩
theorem RowM.alloc {base n : Nat} {w : World} {m : Value} {u : Int} (h : RowM base n w m u) (o : Obj) : RowM base n (w.alloc o) m u := by
  obtain ⟨zs, h1, h2⟩ := h
  exact ⟨zs, h1.alloc o, h2⟩
/-- A running row that began as one of the two does not end in the other. -/
theorem blk_apart {base n N : Nat} {va vb m : Value} {w wr : World} {zs ys : List Value} (hb : Blk w.heap.size va m) (ho : wr.ownsRow base 3 1 m N zs) (hN : 0 < N) (hB : w.ownsRow base 3 1 vb n ys) (hap : ∀ g, va.ownBlock = some g → vb.ownBlock ≠ some g) : m.ownBlock ≠ vb.ownBlock := by
  obtain ⟨p, c, rfl⟩ : ∃ p c, m = .slice p N c := by
    rcases ho.2 with ⟨rfl, rfl⟩ | ⟨g, cap, cur, rfl, _⟩
    · exact ⟨_, _, rfl⟩
    · exact ⟨_, _, rfl⟩
  obtain ⟨g, rfl, _, _⟩ := row_shape ho hN
  intro e
  rcases hb with h | ⟨b, h, hS⟩
  · exact hap g h.symm e.symm
  · have l := (hB.lt b (e.symm.trans h)).2
    omega
theorem Blk.mono {S S' : Nat} {v m : Value} (h : Blk S v m) (hs : S' ≤ S) : Blk S' v m := by
  rcases h with h | ⟨b, h, hb⟩
  · exact .inl h
  · exact .inr ⟨b, h, by omega⟩
theorem one_slice {w : World} {base e n : Nat} {m : Value} {zs : List Value} (h : w.ownsRow base e 1 m n zs) : ∃ p c, m = .slice p n c := by
  rcases h.2 with ⟨rfl, rfl⟩ | ⟨g, cap, cur, rfl, _⟩
  · exact ⟨_, _, rfl⟩
  · exact ⟨_, _, rfl⟩
set_option maxHeartbeats 4000000 in
set_option maxRecDepth 100000 in
theorem free_any (base n bl ca cb : Nat) (pa pb : Option Addr) (xs0 ys0 : List Value) (w : World) (hn : n ≤ 1000) (hbase : base ≤ w.heap.size)
    (hA : w.ownsRow base 3 1 (.slice pa n ca) n xs0) (hB : w.ownsRow base 3 1 (.slice pb n cb) n ys0)
    (hap : ∀ g, Value.ownBlock (.slice pa n ca) = some g → Value.ownBlock (.slice pb n cb) ≠ some g)
    (hbl : bl < w.heap.size) (ha : Value.ownBlock (.slice pa n ca) ≠ some bl) (hb : Value.ownBlock (.slice pb n cb) ≠ some bl)
    (hc0 : w.cell? ⟨bl, 0, .none⟩ = some (.slice pa n ca)) (hc1 : w.cell? ⟨bl, 1, .none⟩ = some (.slice pb n cb)) :
    Calls Try.prog 33 #[.slice (some ⟨bl, 0, .none⟩) 2 2] w fun e w' => e = .returned (.bool true) ∧ ∃ xs ys, Fr base n (.slice pa n ca) (.slice pb n cb) w w' xs ys := by
  have hF0 : Fr base n (.slice pa n ca) (.slice pb n cb) w w xs0 ys0 := ⟨hA, hB, rfl, rfl, rfl, Nat.le_refl _, fun _ _ _ _ => rfl⟩
  have HP : Hid (∀ g, Value.ownBlock (.slice pa n ca) = some g → Value.ownBlock (.slice pb n cb) ≠ some g) := hap
  have HL : Hid (Value.ownBlock (.slice pa n ca) ≠ some bl ∧ Value.ownBlock (.slice pb n cb) ≠ some bl ∧ w.cell? ⟨bl, 0, .none⟩ = some (.slice pa n ca) ∧ w.cell? ⟨bl, 1, .none⟩ = some (.slice pb n cb)) := ⟨ha, hb, hc0, hc1⟩
  clear hap ha hb hc0 hc1 hA hB
  go_enter Try.func33, Try.ntmps33
  go_wp2
  go_loopw [3] (fun i wr => ∃ (I : Nat) (xs ys : List Value), I ≤ 2 ∧ i = .int .i64 I ∧ Fr base n (.slice pa n ca) (.slice pb n cb) w wr xs ys ∧ (1 ≤ I → ∀ j, j < n → xs[j]? = some (.int .i64 4611686018427387905)) ∧ (2 ≤ I → ∀ j, j < n → ys[j]? = some (.int .i64 4611686018427387907))) (fun i _ => 2 - (intOf i).toNat)
  case atStart => exact ⟨0, xs0, ys0, by omega, rfl, hF0, fun h => by omega, fun h => by omega⟩
  case round =>
    obtain ⟨I, xs, ys, hI, rfl, hF, h1, h2⟩ := hrel
    have hsz := hF.size
    have hbr : bl < wr.heap.size := by omega
    have HF : Hid (Fr base n (.slice pa n ca) (.slice pb n cb) w wr xs ys) := hF
    have H1 : Hid (1 ≤ I → ∀ j, j < n → xs[j]? = some (.int .i64 4611686018427387905)) := h1
    have H2 : Hid (2 ≤ I → ∀ j, j < n → ys[j]? = some (.int .i64 4611686018427387907)) := h2
    clear hF h1 h2
    have hN : I = 0 ∨ I = 1 ∨ I = 2 := by omega
    rcases hN with rfl | rfl | rfl
    · clear H1 H2
      go_wp2
      go_loopw [4] (fun k wx => ∃ (K : Nat) (xs ys : List Value), K ≤ n ∧ k = .int .i64 K ∧ Fr base n (.slice pa n ca) (.slice pb n cb) w wx xs ys ∧ (∀ j, j < K → xs[j]? = some (.int .i64 4611686018427387905))) (fun k _ => n - (intOf k).toNat)
      case atStart => exact ⟨0, xs, ys, by omega, rfl, HF.out, fun j h => by omega⟩
      case round =>
        obtain ⟨K, xs1, ys1, hK, rfl, hF, h1⟩ := hrel
        have hsz := hF.size
        have hbr : bl < wr.heap.size := by omega
        have c0 : wr.cell? ⟨bl, 0, .none⟩ = some (.slice pa n ca) := (hF.cell bl 0 hbl HL.out.1 HL.out.2.1).trans HL.out.2.2.1
        by_cases hlt : K < n
        · obtain ⟨g, rfl, hg0, hg1⟩ := row_shape hF.rowA (by omega)
          have hlen : xs1.length = n := by have := hF.rowA.1; omega
          have ck := hF.rowA.cellAt K (by omega)
          rw [List.getElem?_eq_getElem (by omega)] at ck
          have fk := hF.rowA.frozenAt K
          have e1 : (K : Int) < (n : Int) := by omega
          generalize xs1[K] = old at ck
          have HS : Hid (Fr base n _ _ w _ _ _) := hF.setA (HP.out g rfl) K (.int .i64 4611686018427387905)
          have HT : Hid (∀ j, j < K + 1 → _) := set_first xs1 K n (.int .i64 4611686018427387905) hlen hlt h1
          skip
          clear hF h1
          go_wp2
          exact ⟨⟨K + 1, xs1.set K (.int .i64 4611686018427387905), ys1, by omega, by go_num, HS.out, HT.out⟩, by simp [intOf]; omega⟩
        · have e1 : decide ((K : Int) < (n : Int)) = false := by simp; omega
          have HS : Hid (Fr base n (.slice pa n ca) (.slice pb n cb) w wr xs1 ys1) := hF
          have HT : Hid (∀ j, j < K → xs1[j]? = some (.int .i64 4611686018427387905)) := h1
          skip
          clear hF h1
          go_wp2
          exact ⟨⟨1, xs1, ys1, by omega, rfl, HS.out, fun _ j hj => HT.out j (by omega), fun h => by omega⟩, by simp [intOf]⟩
    · have h0 : ∀ j, j < n → xs[j]? = some (.int .i64 4611686018427387905) := H1.out (Nat.le_refl _)
      have H0 : Hid (∀ j, j < n → xs[j]? = some (.int .i64 4611686018427387905)) := h0
      clear h0 H1 H2
      go_wp2
      go_loopw [4] (fun k wx => ∃ (K : Nat) (xs ys : List Value), K ≤ n ∧ k = .int .i64 K ∧ Fr base n (.slice pa n ca) (.slice pb n cb) w wx xs ys ∧ (∀ j, j < n → xs[j]? = some (.int .i64 4611686018427387905)) ∧ (∀ j, j < K → ys[j]? = some (.int .i64 4611686018427387907))) (fun k _ => n - (intOf k).toNat)
      case atStart => exact ⟨0, xs, ys, by omega, rfl, HF.out, H0.out, fun j h => by omega⟩
      case round =>
        obtain ⟨K, xs1, ys1, hK, rfl, hF, h0, h1⟩ := hrel
        have hsz := hF.size
        have hbr : bl < wr.heap.size := by omega
        have c0 : wr.cell? ⟨bl, 1, .none⟩ = some (.slice pb n cb) := (hF.cell bl 1 hbl HL.out.1 HL.out.2.1).trans HL.out.2.2.2
        by_cases hlt : K < n
        · obtain ⟨g, rfl, hg0, hg1⟩ := row_shape hF.rowB (by omega)
          have hlen : ys1.length = n := by have := hF.rowB.1; omega
          have ck := hF.rowB.cellAt K (by omega)
          rw [List.getElem?_eq_getElem (by omega)] at ck
          have fk := hF.rowB.frozenAt K
          have e1 : (K : Int) < (n : Int) := by omega
          generalize ys1[K] = old at ck
          have HS : Hid (Fr base n _ _ w _ _ _) := hF.setB (fun e => HP.out g e rfl) K (.int .i64 4611686018427387907)
          have HT : Hid (∀ j, j < K + 1 → _) := set_first ys1 K n (.int .i64 4611686018427387907) hlen hlt h1
          have H0 : Hid (∀ j, j < n → xs1[j]? = some (.int .i64 4611686018427387905)) := h0
          clear hF h1 h0
          go_wp2
          exact ⟨⟨K + 1, xs1, ys1.set K (.int .i64 4611686018427387907), by omega, by go_num, HS.out, H0.out, HT.out⟩, by simp [intOf]; omega⟩
        · have e1 : decide ((K : Int) < (n : Int)) = false := by simp; omega
          have HS : Hid (Fr base n (.slice pa n ca) (.slice pb n cb) w wr xs1 ys1) := hF
          have HT : Hid (∀ j, j < K → ys1[j]? = some (.int .i64 4611686018427387907)) := h1
          have H0 : Hid (∀ j, j < n → xs1[j]? = some (.int .i64 4611686018427387905)) := h0
          clear hF h1 h0
          go_wp2
          exact ⟨⟨2, xs1, ys1, by omega, rfl, HS.out, fun _ => H0.out, fun _ j hj => HT.out j (by omega)⟩, by simp [intOf]⟩
    · have f1 := H1.out (by decide)
      have f2 := H2.out (by decide)
      have HX : Hid ((∀ j, j < n → xs[j]? = some (.int .i64 4611686018427387905)) ∧ (∀ j, j < n → ys[j]? = some (.int .i64 4611686018427387907))) := ⟨f1, f2⟩
      clear f1 f2 H1 H2
      obtain ⟨i3, z3, hi3, hz3, hs3, hb3, hzs3⟩ := int_info
      obtain ⟨i9, z9, hi9, hz9, hs9, hb9, hzs9⟩ := row_info
      have HI : Hid (Try.prog.info? 3 = some i3 ∧ i3.zero = some z3 ∧ i3.size = 1 ∧ i3.bytes = 8 ∧ z3.cells.size = 1) := ⟨hi3, hz3, hs3, hb3, hzs3⟩
      have HJ : Hid (Try.prog.info? 29 = some i9 ∧ i9.zero = some z9 ∧ i9.size = 1 ∧ i9.bytes = 24 ∧ z9.cells.size = 1) := ⟨hi9, hz9, hs9, hb9, hzs9⟩
      clear hi3 hz3 hs3 hb3 hzs3 hi9 hz9 hs9 hb9 hzs9
      go_wp2
      go_loopw [5, 6] (fun mo i wx => ∃ (I : Nat) (ms : List Value), I ≤ 2 ∧ i = .int .i64 I ∧ Fr base n (.slice pa n ca) (.slice pb n cb) w wx xs ys ∧ wx.ownsRow base 29 1 mo I ms ∧ Blk w.heap.size (.slice none 0 0) mo ∧
        (1 ≤ I → ∃ m, ms[0]? = some m ∧ RowM base n wx m 2305843009213693953 ∧ m.ownBlock ≠ Value.ownBlock (.slice pb n cb)) ∧ (2 ≤ I → ∃ m, ms[1]? = some m ∧ RowM base n wx m 2305843009213693955)) (fun _ i _ => 2 - (intOf i).toNat)
      case atStart => exact ⟨0, [], by omega, rfl, HF.out, World.ownsRow_nil _ _ _ _, .inl rfl, fun h => by omega, fun h => by omega⟩
      case round =>
        obtain ⟨I, ms, hI, rfl, hF, hM, hMb, g1, g2⟩ := hrel
        have hsz := hF.size
        have hbr : bl < wr.heap.size := by omega
        have hN : I = 0 ∨ I = 1 ∨ I = 2 := by omega
        rcases hN with rfl | rfl | rfl
        · have c0 : wr.cell? ⟨bl, 0, .none⟩ = some (.slice pa n ca) := (hF.cell bl 0 hbl HL.out.1 HL.out.2.1).trans HL.out.2.2.1
          have HF1 : Hid (Fr base n (.slice pa n ca) (.slice pb n cb) w wr xs ys) := hF
          have HM1 : Hid (wr.ownsRow base 29 1 u5 0 ms) := hM
          have HMb : Hid (Blk w.heap.size (.slice none 0 0) u5) := hMb
          clear hF hM g1 g2 hMb
          go_wp2
          go_loopw [7, 8] (fun m k wx => ∃ (K : Nat) (zs : List Value), K ≤ 64 ∧ k = .int .i64 K ∧ Fr base n (.slice pa n ca) (.slice pb n cb) w wx xs ys ∧ wx.ownsRow base 3 1 m (n + K) zs ∧ (∀ j, j < K → zs[n + j]? = some (.int .i64 2305843009213693953)) ∧ Blk w.heap.size (.slice pa n ca) m ∧ wx.ownsRow base 29 1 u5 0 ms) (fun _ k _ => 64 - (intOf k).toNat)
          case atStart => exact ⟨0, xs, by omega, rfl, HF1.out, HF1.out.rowA, fun j h => by omega, .inl rfl, HM1.out⟩
          case round =>
            obtain ⟨K, zs, hK, rfl, hF, hO, hz, hBk, hM⟩ := hrel
            have hsz := hF.size
            by_cases hlt : K < 64
            · have e1 : (K : Int) < 64 := by omega
              have hlen : zs.length = n + K := by have := hO.1; omega
              have HF2 : Hid (Fr base n (.slice pa n ca) (.slice pb n cb) w wr xs ys) := hF
              have HO2 : Hid (wr.ownsRow base 3 1 u7 (n + K) zs) := hO
              have HZ2 : Hid (∀ j, j < K → zs[n + j]? = some (.int .i64 2305843009213693953)) := hz
              have HB2 : Hid (Blk w.heap.size (.slice pa n ca) u7) := hBk
              have HM2 : Hid (wr.ownsRow base 29 1 u5 0 ms) := hM
              skip
              clear hF hO hz hBk hM
              go_wp2_with (first
                | (at_builtin; refine wpList_append_keep _ rfl _ _ 29 rfl base 3 i3 z3 8 Try.underlying29 HI.out.1 HI.out.2.1 HI.out.2.2.1 HI.out.2.2.2.1 HI.out.2.2.2.2 _ (n + K) zs rfl (HO2.out.alloc _) ⟨wr.heap.size, 0, .none⟩ 1 (.int .i64 2305843009213693953) rfl ?c1 ?c2 ?c3 ?c4 ?c5 ?c6 ?_)
                | go_in)
              case c1 => simp
              case c2 => rfl
              case c3 => rfl
              case c4 => unfold maxLen; omega
              case c5 => omega
              case c6 => simp only [World.size_alloc]; omega
              · intro v' w2 own' grow keep b fb fc
                have fresh : ∃ b, v'.ownBlock = some b ∧ (u7.ownBlock = some b ∨ _ ≤ b) := ⟨b, fb, fc⟩
                have HW : Hid (Fr base n (.slice pa n ca) (.slice pb n cb) w w2 xs ys ∧ w2.ownsRow base 3 1 v' (n + (K + 1)) (zs ++ [.int .i64 2305843009213693953]) ∧ Blk w.heap.size (.slice pa n ca) v' ∧ w2.ownsRow base 29 1 u5 0 ms) := by
                  have fa := HF2.out.alloc (.cells #[.int .i64 2305843009213693953] 3)
                  have hs2 : w.heap.size ≤ (wr.alloc (.cells #[.int .i64 2305843009213693953] 3)).heap.size := by simp only [World.size_alloc]; omega
                  refine ⟨fa.grown grow (.inl HB2.out) (keep _ _ _ (fun _ => by omega) fa.rowA) (keep _ _ _ (fun _ => by omega) fa.rowB), own', HB2.out.next hs2 (by simpa only [World.size_alloc] using fresh), (HM2.out.alloc _).kept grow (kinds_apart (HM2.out.alloc (.cells #[.int .i64 2305843009213693953] 3)) (HO2.out.alloc (.cells #[.int .i64 2305843009213693953] 3)) (by decide))⟩
                clear own' grow keep fresh fb fc
                go_wp2
                go_roundw
                case rel =>
                  refine ⟨_, _, _, _, _, _, _, _, _, _, _, _, ⟨K + 1, zs ++ [.int .i64 2305843009213693953], by omega, ?_, HW.out.1, HW.out.2.1, app_zs zs n K _ hlen HZ2.out, HW.out.2.2.1, HW.out.2.2.2⟩, rfl⟩
                  go_num
                case measure => simp [intOf]; omega
            · have e1 : decide ((K : Int) < 64) = false := by simp; omega
              obtain rfl : K = 64 := by omega
              obtain ⟨p7, c7, rfl⟩ := one_slice hO
              have HF2 : Hid (Fr base n (.slice pa n ca) (.slice pb n cb) w wr xs ys) := hF
              have HO2 : Hid (RowM base n wr (.slice p7 (n + 64) c7) 2305843009213693953) := ⟨zs, hO, hz⟩
              have HN2 : Hid (Value.ownBlock (.slice p7 (n + 64) c7) ≠ Value.ownBlock (.slice pb n cb)) := blk_apart hBk hO (by omega) hF0.rowB HP.out
              have HM2 : Hid (wr.ownsRow base 29 1 u5 0 ms) := hM
              have hms : ms = [] := List.eq_nil_of_length_eq_zero (by have := hM.1; omega)
              subst hms
              clear hF hO hz hBk hM
              go_wp2_with (first
                | (at_builtin; refine wpList_append_keep _ rfl _ _ 65 rfl base 29 i9 z9 24 Try.underlying65 HJ.out.1 HJ.out.2.1 HJ.out.2.2.1 HJ.out.2.2.2.1 HJ.out.2.2.2.2 _ 0 [] rfl (HM2.out.alloc _) ⟨wr.heap.size, 0, .none⟩ 1 (.slice p7 (n + 64) c7) rfl ?c1 ?c2 ?c3 ?c4 ?c5 ?c6 ?_)
                | go_in)
              case c1 => simp
              case c2 => rfl
              case c3 => rfl
              case c4 => unfold maxLen; omega
              case c5 => omega
              case c6 => simp only [World.size_alloc]; omega
              · intro v' w2 own' grow keep b fb fc
                have fresh : ∃ b, v'.ownBlock = some b ∧ (u5.ownBlock = some b ∨ _ ≤ b) := ⟨b, fb, fc⟩
                have HW : Hid (Fr base n (.slice pa n ca) (.slice pb n cb) w w2 xs ys ∧ w2.ownsRow base 29 1 v' (0 + 1) ([] ++ [.slice p7 (n + 64) c7]) ∧ Blk w.heap.size (.slice none 0 0) v' ∧ RowM base n w2 (.slice p7 (n + 64) c7) 2305843009213693953) := by
                  have fa := HF2.out.alloc (.cells #[.slice p7 (n + 64) c7] 29)
                  have ma := HM2.out.alloc (.cells #[.slice p7 (n + 64) c7] 29)
                  have hs2 : w.heap.size ≤ (wr.alloc (.cells #[.slice p7 (n + 64) c7] 29)).heap.size := by simp only [World.size_alloc]; omega
                  exact ⟨fa.grown grow (.inr (.inr HMb.out)) (fa.rowA.kept grow (kinds_apart fa.rowA ma (by decide))) (fa.rowB.kept grow (kinds_apart fa.rowB ma (by decide))), own', HMb.out.next hs2 (by simpa only [World.size_alloc] using fresh), (HO2.out.alloc _).moved ma grow⟩
                clear own' grow keep fresh fb fc
                go_wp2
                go_roundw
                case rel =>
                  refine ⟨_, _, _, _, _, _, _, _, _, _, _, _, _, _, _, _, _, _, _, _, _, _, _, _, _, _, _, _, ⟨1, [.slice p7 (n + 64) c7], by omega, rfl, HW.out.1, HW.out.2.1, HW.out.2.2.1, fun _ => ⟨_, rfl, HW.out.2.2.2, HN2.out⟩, fun h => by omega⟩, rfl⟩
                case measure => simp [intOf]
        · have c1 : wr.cell? ⟨bl, 1, .none⟩ = some (.slice pb n cb) := (hF.cell bl 1 hbl HL.out.1 HL.out.2.1).trans HL.out.2.2.2
          obtain ⟨m0, hm0, hR0, hN0⟩ := g1 (Nat.le_refl _)
          have hms : ms = [m0] := by
            have hl := hM.1
            match ms, hm0, hl with
            | [x], hm0, _ => simp only [List.getElem?_cons_zero, Option.some.injEq] at hm0; rw [hm0]
          subst hms
          have H0 : Hid (Value.ownBlock m0 ≠ Value.ownBlock (.slice pb n cb) ∧ ∀ k, Value.ownBlock m0 = some k → k < wr.heap.size) := by
            obtain ⟨zs0, h0, _⟩ := hR0
            exact ⟨hN0, fun k hk => (h0.lt k hk).2⟩
          have HF1 : Hid (Fr base n (.slice pa n ca) (.slice pb n cb) w wr xs ys) := hF
          have HM1 : Hid (wr.ownsRow base 29 1 u5 1 [m0]) := hM
          have HR1 : Hid (RowM base n wr m0 2305843009213693953) := hR0
          have HMb : Hid (Blk w.heap.size (.slice none 0 0) u5) := hMb
          clear hF hM g1 g2 hMb hm0 hR0 hN0
          generalize hS1 : wr.heap.size = S1 at *
          have hS : Hid (wr.heap.size = S1) := hS1
          clear hS1
          go_wp2
          go_loopw [7, 8] (fun m k wx => ∃ (K : Nat) (zs : List Value), K ≤ 64 ∧ k = .int .i64 K ∧ Fr base n (.slice pa n ca) (.slice pb n cb) w wx xs ys ∧ wx.ownsRow base 3 1 m (n + K) zs ∧ (∀ j, j < K → zs[n + j]? = some (.int .i64 2305843009213693955)) ∧ Blk S1 (.slice pb n cb) m ∧ wx.ownsRow base 29 1 u5 1 [m0] ∧ RowM base n wx m0 2305843009213693953 ∧ S1 ≤ wx.heap.size) (fun _ k _ => 64 - (intOf k).toNat)
          case atStart => exact ⟨0, ys, by omega, rfl, HF1.out, HF1.out.rowB, fun j h => by omega, .inl rfl, HM1.out, HR1.out, Nat.le_of_eq hS.out.symm⟩
          case round =>
            obtain ⟨K, zs, hK, rfl, hF, hO, hz, hBk, hM, hR0, hS1⟩ := hrel
            have hsz := hF.size
            by_cases hlt : K < 64
            · have e1 : (K : Int) < 64 := by omega
              have hlen : zs.length = n + K := by have := hO.1; omega
              have HF2 : Hid (Fr base n (.slice pa n ca) (.slice pb n cb) w wr xs ys) := hF
              have HO2 : Hid (wr.ownsRow base 3 1 u7 (n + K) zs) := hO
              have HZ2 : Hid (∀ j, j < K → zs[n + j]? = some (.int .i64 2305843009213693955)) := hz
              have HB2 : Hid (Blk S1 (.slice pb n cb) u7) := hBk
              have HM2 : Hid (wr.ownsRow base 29 1 u5 1 [m0]) := hM
              have HR2 : Hid (RowM base n wr m0 2305843009213693953) := hR0
              clear hF hO hz hBk hM hR0
              go_wp2_with (first
                | (at_builtin; refine wpList_append_keep _ rfl _ _ 29 rfl base 3 i3 z3 8 Try.underlying29 HI.out.1 HI.out.2.1 HI.out.2.2.1 HI.out.2.2.2.1 HI.out.2.2.2.2 _ (n + K) zs rfl (HO2.out.alloc _) ⟨wr.heap.size, 0, .none⟩ 1 (.int .i64 2305843009213693955) rfl ?c1 ?c2 ?c3 ?c4 ?c5 ?c6 ?_)
                | go_in)
              case c1 => simp
              case c2 => rfl
              case c3 => rfl
              case c4 => unfold maxLen; omega
              case c5 => omega
              case c6 => simp only [World.size_alloc]; omega
              · intro v' w2 own' grow keep b fb fc
                have fresh : ∃ b, v'.ownBlock = some b ∧ (u7.ownBlock = some b ∨ _ ≤ b) := ⟨b, fb, fc⟩
                have HW : Hid (Fr base n (.slice pa n ca) (.slice pb n cb) w w2 xs ys ∧ w2.ownsRow base 3 1 v' (n + (K + 1)) (zs ++ [.int .i64 2305843009213693955]) ∧ Blk S1 (.slice pb n cb) v' ∧ w2.ownsRow base 29 1 u5 1 [m0] ∧ RowM base n w2 m0 2305843009213693953 ∧ S1 ≤ w2.heap.size) := by
                  have fa := HF2.out.alloc (.cells #[.int .i64 2305843009213693955] 3)
                  have hs2 : S1 ≤ (wr.alloc (.cells #[.int .i64 2305843009213693955] 3)).heap.size := by simp only [World.size_alloc]; omega
                  have hS0 : w.heap.size ≤ S1 := by have := HF1.out.size; have := hS.out; omega
                  refine ⟨fa.grown grow (.inr (.inl (HB2.out.mono hS0))) (keep _ _ _ (fun _ => by omega) fa.rowA) (keep _ _ _ (fun _ => by omega) fa.rowB), own', HB2.out.next hs2 (by simpa only [World.size_alloc] using fresh), (HM2.out.alloc _).kept grow (kinds_apart (HM2.out.alloc (.cells #[.int .i64 2305843009213693955] 3)) (HO2.out.alloc (.cells #[.int .i64 2305843009213693955] 3)) (by decide)), ?_, Nat.le_trans hs2 grow.size⟩
                  obtain ⟨zs0, r1, r2⟩ := HR2.out
                  refine ⟨zs0, keep _ _ _ (fun e => ?_) (r1.alloc _), r2⟩
                  rcases HB2.out with h | ⟨b', h, hb'⟩
                  · exact absurd (e.trans h) H0.out.1
                  · have := H0.out.2 b' (e.trans h)
                    omega
                clear own' grow keep fresh fb fc
                go_wp2
                go_roundw
                case rel =>
                  refine ⟨_, _, _, _, _, _, _, _, _, _, _, _, ⟨K + 1, zs ++ [.int .i64 2305843009213693955], by omega, ?_, HW.out.1, HW.out.2.1, app_zs zs n K _ hlen HZ2.out, HW.out.2.2.1, HW.out.2.2.2.1, HW.out.2.2.2.2.1, HW.out.2.2.2.2.2⟩, rfl⟩
                  go_num
                case measure => simp [intOf]; omega
            · have e1 : decide ((K : Int) < 64) = false := by simp; omega
              obtain rfl : K = 64 := by omega
              obtain ⟨p7, c7, rfl⟩ := one_slice hO
              have HF2 : Hid (Fr base n (.slice pa n ca) (.slice pb n cb) w wr xs ys) := hF
              have HO2 : Hid (RowM base n wr (.slice p7 (n + 64) c7) 2305843009213693955) := ⟨zs, hO, hz⟩
              have HM2 : Hid (wr.ownsRow base 29 1 u5 1 [m0]) := hM
              have HR2 : Hid (RowM base n wr m0 2305843009213693953) := hR0
              clear hF hO hz hBk hM hR0
              go_wp2_with (first
                | (at_builtin; refine wpList_append_keep _ rfl _ _ 65 rfl base 29 i9 z9 24 Try.underlying65 HJ.out.1 HJ.out.2.1 HJ.out.2.2.1 HJ.out.2.2.2.1 HJ.out.2.2.2.2 _ 1 [m0] rfl (HM2.out.alloc _) ⟨wr.heap.size, 0, .none⟩ 1 (.slice p7 (n + 64) c7) rfl ?c1 ?c2 ?c3 ?c4 ?c5 ?c6 ?_)
                | go_in)
              case c1 => simp
              case c2 => rfl
              case c3 => rfl
              case c4 => unfold maxLen; omega
              case c5 => omega
              case c6 => simp only [World.size_alloc]; omega
              · intro v' w2 own' grow keep b fb fc
                have fresh : ∃ b, v'.ownBlock = some b ∧ (u5.ownBlock = some b ∨ _ ≤ b) := ⟨b, fb, fc⟩
                have HW : Hid (Fr base n (.slice pa n ca) (.slice pb n cb) w w2 xs ys ∧ w2.ownsRow base 29 1 v' (1 + 1) ([m0] ++ [.slice p7 (n + 64) c7]) ∧ Blk w.heap.size (.slice none 0 0) v' ∧ RowM base n w2 m0 2305843009213693953 ∧ RowM base n w2 (.slice p7 (n + 64) c7) 2305843009213693955) := by
                  have fa := HF2.out.alloc (.cells #[.slice p7 (n + 64) c7] 29)
                  have ma := HM2.out.alloc (.cells #[.slice p7 (n + 64) c7] 29)
                  have hs2 : w.heap.size ≤ (wr.alloc (.cells #[.slice p7 (n + 64) c7] 29)).heap.size := by simp only [World.size_alloc]; omega
                  exact ⟨fa.grown grow (.inr (.inr HMb.out)) (fa.rowA.kept grow (kinds_apart fa.rowA ma (by decide))) (fa.rowB.kept grow (kinds_apart fa.rowB ma (by decide))), own', HMb.out.next hs2 (by simpa only [World.size_alloc] using fresh), (HR2.out.alloc _).moved ma grow, (HO2.out.alloc _).moved ma grow⟩
                clear own' grow keep fresh fb fc
                go_wp2
                go_roundw
                case rel =>
                  refine ⟨_, _, _, _, _, _, _, _, _, _, _, _, _, _, _, _, _, _, _, _, _, _, _, _, _, _, _, _, ⟨2, [m0, .slice p7 (n + 64) c7], by omega, rfl, HW.out.1, HW.out.2.1, HW.out.2.2.1, fun _ => ⟨_, rfl, HW.out.2.2.2.1, H0.out.1⟩, fun _ => ⟨_, rfl, HW.out.2.2.2.2⟩⟩, rfl⟩
                case measure => simp [intOf]
        · obtain ⟨m0, hm0, hR0, hN0⟩ := g1 (by decide)
          obtain ⟨m1, hm1, hR1⟩ := g2 (Nat.le_refl _)
          obtain ⟨pm, cm, rfl⟩ := one_slice hM
          obtain ⟨gm, rfl, hgm0, hgm1⟩ := row_shape hM (by decide)
          obtain ⟨zs0, o0, y0⟩ := hR0
          obtain ⟨zs1, o1, y1⟩ := hR1
          obtain ⟨p0, c0, rfl⟩ := one_slice o0
          obtain ⟨gx0, rfl, hg00, hg01⟩ := row_shape o0 (by omega)
          obtain ⟨p1, c1, rfl⟩ := one_slice o1
          obtain ⟨gx1, rfl, hg10, hg11⟩ := row_shape o1 (by omega)
          have HG : Hid (wr.cell? ⟨gm, 0, .none⟩ = some (.slice (some ⟨gx0, 0, .none⟩) (n + 64) c0) ∧ wr.cell? ⟨gm, 1, .none⟩ = some (.slice (some ⟨gx1, 0, .none⟩) (n + 64) c1) ∧ (∀ j, j < 64 → wr.cell? ⟨gx0, n + j, .none⟩ = some (.int .i64 2305843009213693953)) ∧ (∀ j, j < 64 → wr.cell? ⟨gx1, n + j, .none⟩ = some (.int .i64 2305843009213693955))) :=
            ⟨(hM.cellAt 0 (by decide)).trans hm0, (hM.cellAt 1 (by decide)).trans hm1, fun j hj => (o0.cellAt (n + j) (by omega)).trans (y0 j hj), fun j hj => (o1.cellAt (n + j) (by omega)).trans (y1 j hj)⟩
          have HC : Hid (wr.cell? ⟨bl, 0, .none⟩ = some (.slice pa n ca) ∧ wr.cell? ⟨bl, 1, .none⟩ = some (.slice pb n cb)) := ⟨(hF.cell bl 0 hbl HL.out.1 HL.out.2.1).trans HL.out.2.2.1, (hF.cell bl 1 hbl HL.out.1 HL.out.2.1).trans HL.out.2.2.2⟩
          have HF2 : Hid (Fr base n (.slice pa n ca) (.slice pb n cb) w wr xs ys) := hF
          clear hF hM hMb hm0 hm1 o0 o1 y0 y1 hN0 g1 g2
          go_wp2
          go_loopw [9] (fun i wx => ∃ I : Nat, I ≤ 2 ∧ i = .int .i64 I ∧ wx = wr) (fun i _ => 2 - (intOf i).toNat)
          case atStart => exact ⟨0, by omega, rfl, rfl⟩
          case round =>
            obtain ⟨I, hI, rfl, rfl⟩ := hrel
            have hN : I = 0 ∨ I = 1 ∨ I = 2 := by omega
            rcases hN with rfl | rfl | rfl
            · have cz : wr.cell? ⟨bl, 0, .none⟩ = some (.slice pa n ca) := HC.out.1
              go_wp2
              go_loopw [11] (fun k wx => ∃ K : Nat, K ≤ n ∧ k = .int .i64 K ∧ wx = wr) (fun k _ => n - (intOf k).toNat)
              case atStart => exact ⟨0, by omega, rfl, rfl⟩
              case round =>
                obtain ⟨K, hK, rfl, rfl⟩ := hrel
                by_cases hlt : K < n
                · obtain ⟨g, rfl, hg0, hg1⟩ := row_shape HF2.out.rowA (by omega)
                  have ck := (HF2.out.rowA.cellAt K (by omega)).trans (HX.out.1 K hlt)
                  have e1 : (K : Int) < (n : Int) := by omega
                  go_wp2
                  exact ⟨⟨K + 1, by omega, by go_num, trivial⟩, by simp [intOf]; omega⟩
                · have e1 : decide ((K : Int) < (n : Int)) = false := by simp; omega
                  go_wp2
                  go_loopw [12] (fun k wx => ∃ K : Nat, K ≤ 64 ∧ k = .int .i64 K ∧ wx = wr) (fun k _ => 64 - (intOf k).toNat)
                  case atStart => exact ⟨0, by omega, rfl, rfl⟩
                  case round =>
                    obtain ⟨J, hJ, rfl, rfl⟩ := hrel
                    by_cases hlt : J < 64
                    · have q0 : wr.cell? ⟨gm, 0, .none⟩ = some (.slice (some ⟨gx0, 0, .none⟩) (n + 64) c0) := HG.out.1
                      have q1 : wr.cell? ⟨gx0, n + J, .none⟩ = some (.int .i64 2305843009213693953) := HG.out.2.2.1 J hlt
                      have e2 : (J : Int) < 64 := by omega
                      have e3 : (n : Int) + (J : Int) < (n : Int) + 64 := by omega
                      go_wp2
                      exact ⟨⟨J + 1, by omega, by go_num, trivial⟩, by simp [intOf]; omega⟩
                    · have e2 : decide ((J : Int) < 64) = false := by simp; omega
                      go_wp2
                      exact ⟨⟨1, by omega, rfl, trivial⟩, by simp [intOf]⟩
            · have cz : wr.cell? ⟨bl, 1, .none⟩ = some (.slice pb n cb) := HC.out.2
              go_wp2
              go_loopw [11] (fun k wx => ∃ K : Nat, K ≤ n ∧ k = .int .i64 K ∧ wx = wr) (fun k _ => n - (intOf k).toNat)
              case atStart => exact ⟨0, by omega, rfl, rfl⟩
              case round =>
                obtain ⟨K, hK, rfl, rfl⟩ := hrel
                by_cases hlt : K < n
                · obtain ⟨g, rfl, hg0, hg1⟩ := row_shape HF2.out.rowB (by omega)
                  have ck := (HF2.out.rowB.cellAt K (by omega)).trans (HX.out.2 K hlt)
                  have e1 : (K : Int) < (n : Int) := by omega
                  go_wp2
                  exact ⟨⟨K + 1, by omega, by go_num, trivial⟩, by simp [intOf]; omega⟩
                · have e1 : decide ((K : Int) < (n : Int)) = false := by simp; omega
                  go_wp2
                  go_loopw [12] (fun k wx => ∃ K : Nat, K ≤ 64 ∧ k = .int .i64 K ∧ wx = wr) (fun k _ => 64 - (intOf k).toNat)
                  case atStart => exact ⟨0, by omega, rfl, rfl⟩
                  case round =>
                    obtain ⟨J, hJ, rfl, rfl⟩ := hrel
                    by_cases hlt : J < 64
                    · have q0 : wr.cell? ⟨gm, 1, .none⟩ = some (.slice (some ⟨gx1, 0, .none⟩) (n + 64) c1) := HG.out.2.1
                      have q1 : wr.cell? ⟨gx1, n + J, .none⟩ = some (.int .i64 2305843009213693955) := HG.out.2.2.2 J hlt
                      have e2 : (J : Int) < 64 := by omega
                      have e3 : (n : Int) + (J : Int) < (n : Int) + 64 := by omega
                      go_wp2
                      exact ⟨⟨J + 1, by omega, by go_num, trivial⟩, by simp [intOf]; omega⟩
                    · have e2 : decide ((J : Int) < 64) = false := by simp; omega
                      go_wp2
                      exact ⟨⟨2, by omega, rfl, trivial⟩, by simp [intOf]⟩
            · go_wp2
              go_ret
              exact ⟨rfl, xs, ys, HF2.out⟩
end Go.Proofs.Ythdahigckflohab
