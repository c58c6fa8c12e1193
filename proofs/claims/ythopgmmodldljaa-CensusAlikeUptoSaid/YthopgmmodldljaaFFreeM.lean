import Derived.Test.YthopgmmodldljaaFKeep
import Derived.Test.YthopgmmodldljaaAq
import Derived.WalkKit
import Derived.WalkSpells
import Derived.RowKit3
import Derived.Deep.Cut
import Derived.LoopTactic
import Derived.Below
import Derived.Laws.NewBlocks
import Derived.OwnWalk
namespace Go.Proofs.Ythopgmmodldljaa.Fz
open Go.RowKit
set_option linter.unusedVariables false
set_option linter.unusedSimpArgs false
/-- Rows of one kind that the call owns, and what else is as it was. -/
structure Fs (E M : Nat) (n : Nat → Nat) (v : Nat → Value) (w wr : World) (xs : Nat → List Value) : Prop where
  row : ∀ i, i < M → wr.ownsRow 0 E 1 (v i) (n i) (xs i)
  os : wr.os = w.os
  tape : wr.tape = w.tape
  output : wr.output = w.output
  size : w.heap.size ≤ wr.heap.size
  block : ∀ k, k < w.heap.size → (∀ i, i < M → some k ≠ (v i).ownBlock) → wr.heap[k]? = w.heap[k]?
def Apart (M : Nat) (v : Nat → Value) : Prop := ∀ i j, i < M → j < M → i ≠ j → ∀ g, (v i).ownBlock = some g → (v j).ownBlock ≠ some g
variable {E M : Nat} {n : Nat → Nat} {v : Nat → Value} {w wr : World} {xs : Nat → List Value}
theorem Fs.cell (h : Fs E M n v w wr xs) (b o : Nat) (hb : b < w.heap.size) (hv : ∀ i, i < M → (v i).ownBlock ≠ some b) : wr.cell? ⟨b, o, .none⟩ = w.cell? ⟨b, o, .none⟩ :=
  World.cell?_of_block (h.block b hb (fun i hi e => hv i hi e.symm))
theorem Fs.set (h : Fs E M n v w wr xs) (hap : Apart M v) (I : Nat) (hI : I < M) (g c : Nat) (hv : v I = .slice (some ⟨g, 0, .none⟩) (n I) c) (j : Nat) (u : Value) :
    Fs E M n v w (wr.setCell ⟨g, j, .none⟩ u) (fun i => if i = I then (xs I).set j u else xs i) := by
  have hr := h.row I hI
  rw [hv] at hr
  obtain ⟨s1, s2⟩ := hr.stored j u
  have hg : (v I).ownBlock = some g := by rw [hv]; rfl
  refine ⟨fun i hi => ?_, s2.os.trans h.os, s2.tape.trans h.tape, s2.output.trans h.output, Nat.le_trans h.size s2.size, fun k hk hn => ?_⟩
  · by_cases e : i = I
    · subst e
      rw [if_pos rfl, hv]
      exact s1
    · rw [if_neg e]
      exact (h.row i hi).kept s2 (.inr (hap I i hI hi (fun e' => e e'.symm) g hg))
  · rw [s2.block k (Nat.lt_of_lt_of_le hk h.size) (fun e => hn I hI (e.trans hg.symm))]
    exact h.block k hk hn
theorem Fs.alloc (h : Fs E M n v w wr xs) (o : Obj) : Fs E M n v w (wr.alloc o) xs :=
  ⟨fun i hi => (h.row i hi).alloc o, h.os, h.tape, h.output, by simp only [World.size_alloc]; have := h.size; omega, fun k hk h1 => (Below.heap_alloc wr o k (Nat.lt_of_lt_of_le hk h.size)).trans (h.block k hk h1)⟩
theorem set_first (xs : List Value) (k n : Nat) (u : Value) (hl : xs.length = n) (hk : k < n) (h : ∀ j, j < k → xs[j]? = some u) : ∀ j, j < k + 1 → (xs.set k u)[j]? = some u := by
  intro j hj
  by_cases e : j = k
  · subst e; rw [List.getElem?_set_self (by omega)]
  · rw [List.getElem?_set_ne (by omega)]; exact h j (by omega)
theorem row_shape {w : World} {base e n : Nat} {p : Option Addr} {c : Nat} {xs : List Value} (h : w.ownsRow base e 1 (.slice p n c) n xs) (hn : 0 < n) : ∃ g, p = some ⟨g, 0, .none⟩ ∧ base ≤ g ∧ g < w.heap.size := by
  rcases h.2 with ⟨_, h0⟩ | ⟨g, cap, cur, hv, hb, hg, _⟩
  · omega
  · simp only [Value.slice.injEq] at hv
    exact ⟨g, hv.1, hb, (Array.getElem?_eq_some_iff.1 hg).1⟩
/-- The running row: the one it began as, or new. -/
def Blk (S : Nat) (v m : Value) : Prop := m.ownBlock = v.ownBlock ∨ ∃ b, m.ownBlock = some b ∧ S ≤ b
theorem Fs.grown {m : Value} {w2 : World} (h : Fs E M n v w wr xs) (hg : wr.grownBy w2 m.ownBlock) (hm : (∃ i, i < M ∧ Blk w.heap.size (v i) m) ∨ Blk w.heap.size (.slice none 0 0) m) (kA : ∀ i, i < M → w2.ownsRow 0 E 1 (v i) (n i) (xs i)) : Fs E M n v w w2 xs := by
  refine ⟨kA, hg.os.trans h.os, hg.tape.trans h.tape, hg.output.trans h.output, Nat.le_trans h.size hg.size, fun k hk h1 => ?_⟩
  rw [hg.block k (Nat.lt_of_lt_of_le hk h.size) (fun e => ?_)]
  · exact h.block k hk h1
  · rcases hm with ⟨i, hi, hm | ⟨b, hm, hb⟩⟩ | (hm | ⟨b, hm, hb⟩)
    · exact h1 i hi (e.trans hm)
    · rw [hm] at e; simp only [Option.some.injEq] at e; omega
    · rw [hm] at e; simp [Value.ownBlock] at e
    · rw [hm] at e; simp only [Option.some.injEq] at e; omega
theorem Blk.next {S : Nat} {v m m' : Value} {w1 : World} (h : Blk S v m) (hs : S ≤ w1.heap.size) (hf : ∃ b, m'.ownBlock = some b ∧ (m.ownBlock = some b ∨ w1.heap.size ≤ b)) : Blk S v m' := by
  obtain ⟨b, hb, hf⟩ := hf
  rcases hf with hf | hf
  · rcases h with h | ⟨c, hc, hS⟩
    · exact .inl (by rw [hb, ← hf, h])
    · exact .inr ⟨b, hb, by rw [hc] at hf; simp only [Option.some.injEq] at hf; omega⟩
  · exact .inr ⟨b, hb, by omega⟩
theorem Blk.mono {S S' : Nat} {v m : Value} (h : Blk S v m) (hs : S' ≤ S) : Blk S' v m := by
  rcases h with h | ⟨b, h, hb⟩
  · exact .inl h
  · exact .inr ⟨b, h, by omega⟩
/-- Rows of unlike kinds are apart. -/
theorem kinds_apart1 {w : World} {base : Nat} {v m : Value} {n k : Nat} {xs ys : List Value} {e e' : TypeId} (hv : w.ownsRow base e 1 v n xs) (hm : w.ownsRow base e' 1 m k ys) (hee : e ≠ e') : v.ownBlock = none ∨ v.ownBlock ≠ m.ownBlock := by
  rcases hv.2 with ⟨rfl, _⟩ | ⟨g, cap, cur, rfl, _, hg, _⟩
  · exact .inl rfl
  · rcases hm.2 with ⟨rfl, _⟩ | ⟨g', cap', cur', rfl, _, hg', _⟩
    · exact .inr (by simp [Value.ownBlock])
    · refine .inr (fun e => ?_)
      simp only [Value.ownBlock, Option.some.injEq] at e
      subst e
      rw [hg] at hg'
      simp only [Option.some.injEq, Obj.cells.injEq] at hg'
      exact hee hg'.2.1
def RowZ (E n : Nat) (wr : World) (m u : Value) : Prop := ∃ zs, wr.ownsRow 0 E 1 m (n + 64) zs ∧ ∀ j, j < 64 → zs[n + j]? = some u
theorem app_zs (zs : List Value) (n K : Nat) (u : Value) (hl : zs.length = n + K) (h : ∀ j, j < K → zs[n + j]? = some u) : ∀ j, j < K + 1 → (zs ++ [u])[n + j]? = some u := by
  intro j hj
  by_cases e : j = K
  · subst e; rw [List.getElem?_append_right (by omega)]; simp [hl]
  · rw [List.getElem?_append_left (by omega)]; exact h j (by omega)
theorem RowZ.moved {T n : Nat} {w w2 : World} {m mo u : Value} {k : Nat} {ms : List Value} (h : RowZ E n w m u) (hM : w.ownsRow 0 T 1 mo k ms) (hE : E ≠ T) (hg : w.grownBy w2 mo.ownBlock) : RowZ E n w2 m u := by
  obtain ⟨zs, h1, h2⟩ := h
  exact ⟨zs, h1.kept hg (kinds_apart1 h1 hM hE), h2⟩
theorem RowZ.alloc {n : Nat} {w : World} {m u : Value} (h : RowZ E n w m u) (o : Obj) : RowZ E n (w.alloc o) m u := by
  obtain ⟨zs, h1, h2⟩ := h
  exact ⟨zs, h1.alloc o, h2⟩
theorem one_slice {w : World} {base e n : Nat} {m : Value} {zs : List Value} (h : w.ownsRow base e 1 m n zs) : ∃ p c, m = .slice p n c := by
  rcases h.2 with ⟨rfl, rfl⟩ | ⟨g, cap, cur, rfl, _⟩
  · exact ⟨_, _, rfl⟩
  · exact ⟨_, _, rfl⟩
theorem own_some {w : World} {base e n : Nat} {m : Value} {zs : List Value} (h : w.ownsRow base e 1 m n zs) (hn : 0 < n) : ∃ g, m.ownBlock = some g := by
  obtain ⟨p, c, rfl⟩ := one_slice h
  obtain ⟨g, rfl, _⟩ := row_shape h hn
  exact ⟨g, rfl⟩
theorem info_of (t : TypeId) (b : Nat) (h1 : (Try.prog.info? t).map (fun i => (i.size, i.bytes)) = some (1, b)) (h2 : ((Try.prog.info? t).bind (·.zero)).map (·.cells.size) = some 1) :
    ∃ i z, Try.prog.info? t = some i ∧ i.zero = some z ∧ i.size = 1 ∧ i.bytes = b ∧ z.cells.size = 1 := by
  cases hi : Try.prog.info? t with
  | none => rw [hi] at h1; cases h1
  | some i =>
    rw [hi] at h1 h2
    simp only [Option.map_some, Option.some.injEq, Prod.mk.injEq, Option.bind_some] at h1 h2
    cases hz : i.zero with
    | none => rw [hz] at h2; cases h2
    | some z =>
      rw [hz] at h2
      exact ⟨i, z, rfl, hz, h1.1, h1.2, by simpa using h2⟩
/-- The rows that have grown already. -/
def Done (E : Nat) (mb : Nat → Value) (n : Nat → Nat) (v : Nat → Value) (M I S : Nat) (wx : World) (ms : List Value) : Prop :=
  ∀ t, t < I → ∃ m, ms[t]? = some m ∧ RowZ E (n t) wx m (mb t) ∧ (∀ i, I ≤ i → i < M → m.ownBlock ≠ (v i).ownBlock) ∧ (∀ k, m.ownBlock = some k → k < S)
theorem Done.alloc {mb : Nat → Value} {I S : Nat} {wx : World} {ms : List Value} (h : Done E mb n v M I S wx ms) (o : Obj) : Done E mb n v M I S (wx.alloc o) ms := fun t ht => by
  obtain ⟨m, h1, h2, h3⟩ := h t ht
  exact ⟨m, h1, h2.alloc o, h3⟩
theorem Done.keep {mb : Nat → Value} {I S q : Nat} {wx w2 : World} {ms : List Value} {m : Value} (h : Done E mb n v M I S wx ms) (hI : I < M) (hB : Blk S (v I) m) (keep : ∀ v0 n0 xs0, (v0.ownBlock = m.ownBlock → n0 ≤ q) → wx.ownsRow 0 E 1 v0 n0 xs0 → w2.ownsRow 0 E 1 v0 n0 xs0) : Done E mb n v M I S w2 ms := fun t ht => by
  obtain ⟨m0, h1, ⟨zs, h2, h2'⟩, h3, h4⟩ := h t ht
  refine ⟨m0, h1, ⟨zs, keep _ _ _ (fun e => ?_) h2, h2'⟩, h3, h4⟩
  rcases hB with hb | ⟨b, hb, hS⟩
  · exact absurd (e.trans hb) (h3 I (Nat.le_refl _) hI)
  · have := h4 b (e.trans hb)
    omega
theorem Done.moved {mb : Nat → Value} {I S T k : Nat} {wx w2 : World} {ms ms' : List Value} {mo : Value} (h : Done E mb n v M I S wx ms) (hM : wx.ownsRow 0 T 1 mo k ms') (hE : E ≠ T) (hg : wx.grownBy w2 mo.ownBlock) : Done E mb n v M I S w2 ms := fun t ht => by
  obtain ⟨m, h1, h2, h3⟩ := h t ht
  exact ⟨m, h1, h2.moved hM hE hg, h3⟩
theorem Done.next {mb : Nat → Value} {I S : Nat} {wx : World} {ms : List Value} {m : Value} (h : Done E mb n v M I S wx ms) (hl : ms.length = I) (hI : I < M) (hB : Blk S (v I) m) (hz : RowZ E (n I) wx m (mb I)) (hap : Apart M v) (hv : ∀ i, i < M → ∀ g, (v i).ownBlock = some g → g < S) (hS : S ≤ wx.heap.size) : Done E mb n v M (I + 1) wx.heap.size wx (ms ++ [m]) := fun t ht => by
  by_cases e : t = I
  · subst e
    refine ⟨m, by rw [List.getElem?_append_right (by omega)]; simp [hl], hz, fun i hi hiM e => ?_, fun k hk => ?_⟩
    · obtain ⟨zs, hz, _⟩ := hz
      obtain ⟨g, hg⟩ := own_some hz (by omega)
      rcases hB with hb | ⟨b, hb, hS⟩
      · exact hap t i hI hiM (by omega) g (hb.symm.trans hg) (e.symm.trans hg)
      · have := hv i hiM b (e.symm.trans hb)
        omega
    · obtain ⟨zs, hz, _⟩ := hz
      exact (hz.lt k hk).2
  · obtain ⟨m0, h1, h2, h3, h4⟩ := h t (by omega)
    exact ⟨m0, by rw [List.getElem?_append_left (by omega)]; exact h1, h2, fun i hi => h3 i (by omega), fun k hk => Nat.lt_of_lt_of_le (h4 k hk) hS⟩
end Go.Proofs.Ythopgmmodldljaa.Fz
