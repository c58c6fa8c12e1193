import Derived.Test.YtblmkkhiojbcjaaGreatFKeep
import Derived.Test.YtblmkkhiojbcjaaGreatUk
import Derived.WalkKit
import Derived.WalkSpells
import Derived.RowKit3
import Derived.Deep.Cut
import Derived.LoopTactic
import Derived.Below
import Derived.Laws.NewBlocks
import Derived.OwnWalk
import Derived.Deep.RegionHeld3
import Derived.Test.YtblmkkhiojbcjaaGreatSMapL
import Derived.Test.YtblmkkhiojbcjaaGreatTb
namespace Go.Proofs.YtblmkkhiojbcjaaGreat.Fz
open Go.RowKit
set_option linter.unusedVariables false
set_option linter.unusedSimpArgs false
/-- Rows of one kind that the call owns, and what else is as it was. -/
structure Fs (E M : Nat) (n : Nat → Nat) (v : Nat → Value) (w wr : World) (xs : Nat → List Value) : Prop where
  row : ∀ i, i < M → wr.ownsRow 0 E 1 (v i) (n i) (xs i)
  os : wr.os = w.os
  tape : wr.tape = w.tape
  output : wr.output = w.output
  size : w.heap.size ≤ wr.heap.size
  block : ∀ k, k < w.heap.size → (∀ i, i < M → some k ≠ (v i).ownBlock) → wr.heap[k]? = w.heap[k]?
def Apart (M : Nat) (v : Nat → Value) : Prop := ∀ i j, i < M → j < M → i ≠ j → ∀ g, (v i).ownBlock = some g → (v j).ownBlock ≠ some g
variable {E M : Nat} {n : Nat → Nat} {v : Nat → Value} {w wr : World} {xs : Nat → List Value}
theorem Fs.cell (h : Fs E M n v w wr xs) (b o : Nat) (hb : b < w.heap.size) (hv : ∀ i, i < M → (v i).ownBlock ≠ some b) : wr.cell? ⟨b, o, .none⟩ = w.cell? ⟨b, o, .none⟩ :=
  World.cell?_of_block (h.block b hb (fun i hi e => hv i hi e.symm))
theorem Fs.set (h : Fs E M n v w wr xs) (hap : Apart M v) (I : Nat) (hI : I < M) (g c : Nat) (hv : v I = .slice (some ⟨g, 0, .none⟩) (n I) c) (j : Nat) (u : Value) :
    Fs E M n v w (wr.setCell ⟨g, j, .none⟩ u) (fun i => if i = I then (xs I).set j u else xs i) := by
  have hr := h.row I hI
  rw [hv] at hr
  obtain ⟨s1, s2⟩ := hr.stored j u
  have hg : (v I).ownBlock = some g := by rw [hv]; rfl
  refine ⟨fun i hi => ?_, s2.os.trans h.os, s2.tape.trans h.tape, s2.output.trans h.output, Nat.le_trans h.size s2.size, fun k hk hn => ?_⟩
  · by_cases e : i = I
    · subst e
      rw [if_pos rfl, hv]
      exact s1
    · rw [if_neg e]
      exact (h.row i hi).kept s2 (.inr (hap I i hI hi (fun e' => e e'.symm) g hg))
  · rw [s2.block k (Nat.lt_of_lt_of_le hk h.size) (fun e => hn I hI (e.trans hg.symm))]
    exact h.block k hk hn
theorem Fs.alloc (h : Fs E M n v w wr xs) (o : Obj) : Fs E M n v w (wr.alloc o) xs :=
  ⟨fun i hi => (h.row i hi).alloc o, h.os, h.tape, h.output, by simp only [World.size_alloc]; have := h.size; omega, fun k hk h1 => (Below.heap_alloc wr o k (Nat.lt_of_lt_of_le hk h.size)).trans (h.block k hk h1)⟩
theorem set_first (xs : List Value) (k n : Nat) (u : Value) (hl : xs.length = n) (hk : k < n) (h : ∀ j, j < k → xs[j]? = some u) : ∀ j, j < k + 1 → (xs.set k u)[j]? = some u := by
  intro j hj
  by_cases e : j = k
  · subst e; rw [List.getElem?_set_self (by omega)]
  · rw [List.getElem?_set_ne (by omega)]; exact h j (by omega)
theorem row_shape {w : World} {base e n : Nat} {p : Option Addr} {c : Nat} {xs : List Value} (h : w.ownsRow base e 1 (.slice p n c) n xs) (hn : 0 < n) : ∃ g, p = some ⟨g, 0, .none⟩ ∧ base ≤ g ∧ g < w.heap.size := by
  rcases h.2 with ⟨_, h0⟩ | ⟨g, cap, cur, hv, hb, hg, _⟩
  · omega
  · simp only [Value.slice.injEq] at hv
    exact ⟨g, hv.1, hb, (Array.getElem?_eq_some_iff.1 hg).1⟩
/-- The running row: the one it began as, or new. -/
def Blk (S : Nat) (v m : Value) : Prop := m.ownBlock = v.ownBlock ∨ ∃ b, m.ownBlock = some b ∧ S ≤ b
theorem Fs.grown {m : Value} {w2 : World} (h : Fs E M n v w wr xs) (hg : wr.grownBy w2 m.ownBlock) (hm : (∃ i, i < M ∧ Blk w.heap.size (v i) m) ∨ Blk w.heap.size (.slice none 0 0) m) (kA : ∀ i, i < M → w2.ownsRow 0 E 1 (v i) (n i) (xs i)) : Fs E M n v w w2 xs := by
  refine ⟨kA, hg.os.trans h.os, hg.tape.trans h.tape, hg.output.trans h.output, Nat.le_trans h.size hg.size, fun k hk h1 => ?_⟩
  rw [hg.block k (Nat.lt_of_lt_of_le hk h.size) (fun e => ?_)]
  · exact h.block k hk h1
  · rcases hm with ⟨i, hi, hm | ⟨b, hm, hb⟩⟩ | (hm | ⟨b, hm, hb⟩)
    · exact h1 i hi (e.trans hm)
    · rw [hm] at e; simp only [Option.some.injEq] at e; omega
    · rw [hm] at e; simp [Value.ownBlock] at e
    · rw [hm] at e; simp only [Option.some.injEq] at e; omega
theorem Blk.next {S : Nat} {v m m' : Value} {w1 : World} (h : Blk S v m) (hs : S ≤ w1.heap.size) (hf : ∃ b, m'.ownBlock = some b ∧ (m.ownBlock = some b ∨ w1.heap.size ≤ b)) : Blk S v m' := by
  obtain ⟨b, hb, hf⟩ := hf
  rcases hf with hf | hf
  · rcases h with h | ⟨c, hc, hS⟩
    · exact .inl (by rw [hb, ← hf, h])
    · exact .inr ⟨b, hb, by rw [hc] at hf; simp only [Option.some.injEq] at hf; omega⟩
  · exact .inr ⟨b, hb, by omega⟩
theorem Blk.mono {S S' : Nat} {v m : Value} (h : Blk S v m) (hs : S' ≤ S) : Blk S' v m := by
  rcases h with h | ⟨b, h, hb⟩
  · exact .inl h
  · exact .inr ⟨b, h, by omega⟩
/-- Rows of unlike kinds are apart. -/
theorem kinds_apart1 {w : World} {base : Nat} {v m : Value} {n k : Nat} {xs ys : List Value} {e e' : TypeId} (hv : w.ownsRow base e 1 v n xs) (hm : w.ownsRow base e' 1 m k ys) (hee : e ≠ e') : v.ownBlock = none ∨ v.ownBlock ≠ m.ownBlock := by
  rcases hv.2 with ⟨rfl, _⟩ | ⟨g, cap, cur, rfl, _, hg, _⟩
  · exact .inl rfl
  · rcases hm.2 with ⟨rfl, _⟩ | ⟨g', cap', cur', rfl, _, hg', _⟩
    · exact .inr (by simp [Value.ownBlock])
    · refine .inr (fun e => ?_)
      simp only [Value.ownBlock, Option.some.injEq] at e
      subst e
      rw [hg] at hg'
      simp only [Option.some.injEq, Obj.cells.injEq] at hg'
      exact hee hg'.2.1
def RowZ (E n : Nat) (wr : World) (m u : Value) : Prop := ∃ zs, wr.ownsRow 0 E 1 m (n + 64) zs ∧ ∀ j, j < 64 → zs[n + j]? = some u
theorem app_zs (zs : List Value) (n K : Nat) (u : Value) (hl : zs.length = n + K) (h : ∀ j, j < K → zs[n + j]? = some u) : ∀ j, j < K + 1 → (zs ++ [u])[n + j]? = some u := by
  intro j hj
  by_cases e : j = K
  · subst e; rw [List.getElem?_append_right (by omega)]; simp [hl]
  · rw [List.getElem?_append_left (by omega)]; exact h j (by omega)
theorem RowZ.moved {T n : Nat} {w w2 : World} {m mo u : Value} {k : Nat} {ms : List Value} (h : RowZ E n w m u) (hM : w.ownsRow 0 T 1 mo k ms) (hE : E ≠ T) (hg : w.grownBy w2 mo.ownBlock) : RowZ E n w2 m u := by
  obtain ⟨zs, h1, h2⟩ := h
  exact ⟨zs, h1.kept hg (kinds_apart1 h1 hM hE), h2⟩
theorem RowZ.alloc {n : Nat} {w : World} {m u : Value} (h : RowZ E n w m u) (o : Obj) : RowZ E n (w.alloc o) m u := by
  obtain ⟨zs, h1, h2⟩ := h
  exact ⟨zs, h1.alloc o, h2⟩
theorem one_slice {w : World} {base e n : Nat} {m : Value} {zs : List Value} (h : w.ownsRow base e 1 m n zs) : ∃ p c, m = .slice p n c := by
  rcases h.2 with ⟨rfl, rfl⟩ | ⟨g, cap, cur, rfl, _⟩
  · exact ⟨_, _, rfl⟩
  · exact ⟨_, _, rfl⟩
theorem own_some {w : World} {base e n : Nat} {m : Value} {zs : List Value} (h : w.ownsRow base e 1 m n zs) (hn : 0 < n) : ∃ g, m.ownBlock = some g := by
  obtain ⟨p, c, rfl⟩ := one_slice h
  obtain ⟨g, rfl, _⟩ := row_shape h hn
  exact ⟨g, rfl⟩
theorem info_of (t : TypeId) (b : Nat) (h1 : (Tryz.prog.info? t).map (fun i => (i.size, i.bytes)) = some (1, b)) (h2 : ((Tryz.prog.info? t).bind (·.zero)).map (·.cells.size) = some 1) :
    ∃ i z, Tryz.prog.info? t = some i ∧ i.zero = some z ∧ i.size = 1 ∧ i.bytes = b ∧ z.cells.size = 1 := by
  cases hi : Tryz.prog.info? t with
  | none => rw [hi] at h1; cases h1
  | some i =>
    rw [hi] at h1 h2
    simp only [Option.map_some, Option.some.injEq, Prod.mk.injEq, Option.bind_some] at h1 h2
    cases hz : i.zero with
    | none => rw [hz] at h2; cases h2
    | some z =>
      rw [hz] at h2
      exact ⟨i, z, rfl, hz, h1.1, h1.2, by simpa using h2⟩
/-- The rows that have grown already. -/
def Done (E : Nat) (mb : Nat → Value) (n : Nat → Nat) (v : Nat → Value) (M I S : Nat) (wx : World) (ms : List Value) : Prop :=
  ∀ t, t < I → ∃ m, ms[t]? = some m ∧ RowZ E (n t) wx m (mb t) ∧ (∀ i, I ≤ i → i < M → m.ownBlock ≠ (v i).ownBlock) ∧ (∀ k, m.ownBlock = some k → k < S)
theorem Done.alloc {mb : Nat → Value} {I S : Nat} {wx : World} {ms : List Value} (h : Done E mb n v M I S wx ms) (o : Obj) : Done E mb n v M I S (wx.alloc o) ms := fun t ht => by
  obtain ⟨m, h1, h2, h3⟩ := h t ht
  exact ⟨m, h1, h2.alloc o, h3⟩
theorem Done.keep {mb : Nat → Value} {I S q : Nat} {wx w2 : World} {ms : List Value} {m : Value} (h : Done E mb n v M I S wx ms) (hI : I < M) (hB : Blk S (v I) m) (keep : ∀ v0 n0 xs0, (v0.ownBlock = m.ownBlock → n0 ≤ q) → wx.ownsRow 0 E 1 v0 n0 xs0 → w2.ownsRow 0 E 1 v0 n0 xs0) : Done E mb n v M I S w2 ms := fun t ht => by
  obtain ⟨m0, h1, ⟨zs, h2, h2'⟩, h3, h4⟩ := h t ht
  refine ⟨m0, h1, ⟨zs, keep _ _ _ (fun e => ?_) h2, h2'⟩, h3, h4⟩
  rcases hB with hb | ⟨b, hb, hS⟩
  · exact absurd (e.trans hb) (h3 I (Nat.le_refl _) hI)
  · have := h4 b (e.trans hb)
    omega
theorem Done.moved {mb : Nat → Value} {I S T k : Nat} {wx w2 : World} {ms ms' : List Value} {mo : Value} (h : Done E mb n v M I S wx ms) (hM : wx.ownsRow 0 T 1 mo k ms') (hE : E ≠ T) (hg : wx.grownBy w2 mo.ownBlock) : Done E mb n v M I S w2 ms := fun t ht => by
  obtain ⟨m, h1, h2, h3⟩ := h t ht
  exact ⟨m, h1, h2.moved hM hE hg, h3⟩
theorem Done.next {mb : Nat → Value} {I S : Nat} {wx : World} {ms : List Value} {m : Value} (h : Done E mb n v M I S wx ms) (hl : ms.length = I) (hI : I < M) (hB : Blk S (v I) m) (hz : RowZ E (n I) wx m (mb I)) (hap : Apart M v) (hv : ∀ i, i < M → ∀ g, (v i).ownBlock = some g → g < S) (hS : S ≤ wx.heap.size) : Done E mb n v M (I + 1) wx.heap.size wx (ms ++ [m]) := fun t ht => by
  by_cases e : t = I
  · subst e
    refine ⟨m, by rw [List.getElem?_append_right (by omega)]; simp [hl], hz, fun i hi hiM e => ?_, fun k hk => ?_⟩
    · obtain ⟨zs, hz, _⟩ := hz
      obtain ⟨g, hg⟩ := own_some hz (by omega)
      rcases hB with hb | ⟨b, hb, hS⟩
      · exact hap t i hI hiM (by omega) g (hb.symm.trans hg) (e.symm.trans hg)
      · have := hv i hiM b (e.symm.trans hb)
        omega
    · obtain ⟨zs, hz, _⟩ := hz
      exact (hz.lt k hk).2
  · obtain ⟨m0, h1, h2, h3, h4⟩ := h t (by omega)
    exact ⟨m0, by rw [List.getElem?_append_left (by omega)]; exact h1, h2, fun i hi => h3 i (by omega), fun k hk => Nat.lt_of_lt_of_le (h4 k hk) hS⟩
end Go.Proofs.YtblmkkhiojbcjaaGreat.Fz
namespace Go.Proofs.YtblmkkhiojbcjaaGreat.Fz
open Go.RowKit
set_option linter.unusedVariables false
set_option linter.unusedSimpArgs false
/-- A slice's numbers, each where it lies. -/
def See (w : World) (k : IntKind) (q : Option Addr) (n : Nat) (R : Nat → Int) : Prop := n = 0 ∨ ∃ g o, q = some ⟨g, o, .none⟩ ∧ g < w.heap.size ∧ ∀ i, i < n → w.cell? ⟨g, o + i, .none⟩ = some (.int k (R i))
theorem See.below {w w' : World} {k : IntKind} {q : Option Addr} {n : Nat} {R : Nat → Int} (h : See w k q n R) (b : Below w.heap.size w w') : See w' k q n R := by
  rcases h with h | ⟨g, o, hq, hg, hr⟩
  · exact .inl h
  · exact .inr ⟨g, o, hq, Nat.lt_of_lt_of_le hg b.size, fun i hi => (b.cell (p := ⟨g, o + i, .none⟩) hg).trans (hr i hi)⟩
/-- A copy's row, new. -/
def CopyRB (w : World) (n : Nat) (R : Nat → Int) (e : Ending) (w' : World) : Prop := ∃ q c, e = .returned (.slice q n c) ∧ w'.ownsRow w.heap.size 5 1 (.slice q n c) n ((List.range n).map fun i => .int .u8 (R i)) ∧ Below w.heap.size w w'
def CRelB (w : World) (n : Nat) (R : Nat → Int) (v3 v4 : Value) (wr : World) : Prop := ∃ (i : Nat) (q : Option Addr) (c : Nat), i ≤ n ∧ v3 = .slice q i c ∧ v4 = .int .i64 i ∧ wr.ownsRow w.heap.size 5 1 (.slice q i c) i ((List.range i).map fun i => .int .u8 (R i)) ∧ Below w.heap.size w wr
/-- A copy's row, new. -/
def CopyRW (w : World) (n : Nat) (R : Nat → Int) (e : Ending) (w' : World) : Prop := ∃ q c, e = .returned (.slice q n c) ∧ w'.ownsRow w.heap.size 23 1 (.slice q n c) n ((List.range n).map fun i => .int .u64 (R i)) ∧ Below w.heap.size w w'
def CRelW (w : World) (n : Nat) (R : Nat → Int) (v3 v4 : Value) (wr : World) : Prop := ∃ (i : Nat) (q : Option Addr) (c : Nat), i ≤ n ∧ v3 = .slice q i c ∧ v4 = .int .i64 i ∧ wr.ownsRow w.heap.size 23 1 (.slice q i c) i ((List.range i).map fun i => .int .u64 (R i)) ∧ Below w.heap.size w wr
theorem ownsRow_some {W : World} {base e size k : Nat} {v : Value} {xs : List Value} (h : W.ownsRow base e size v (k + 1) xs) : ∃ g cap, v = .slice (some ⟨g, 0, .none⟩) (k + 1) cap := by
  rcases h.2 with ⟨_, h0⟩ | ⟨g, cap, _, rfl, _⟩
  · omega
  · exact ⟨g, cap, rfl⟩
theorem info28' : ∃ i, Tryz.prog.info? 23 = some i ∧ i.zero = some (.int .u64 0) ∧ i.size = 1 ∧ i.bytes = 8 := by
  have h : (Tryz.prog.info? 23).map (fun i => (i.zero, i.size, i.bytes)) = some (some (.int .u64 0), 1, 8) := by kernel_rfl
  cases hq : Tryz.prog.info? 23 with
  | none => rw [hq] at h; cases h
  | some i =>
    rw [hq] at h
    simp only [Option.map_some, Option.some.injEq, Prod.mk.injEq] at h
    exact ⟨i, rfl, h⟩
set_option maxHeartbeats 1000000 in
theorem copyW_any {w : World} {n ca : Nat} {qa : Option Addr} {R : Nat → Int} (hn : n ≤ 1000000000) (ha : See w .u64 qa n R) : Calls Tryz.prog 22 #[.slice qa n ca] w fun e w' => CopyRW w n R e w' := by
  obtain ⟨j0, hj0, hjz, hj1, hj2⟩ := info28'
  go_enter Tryz.func22, Tryz.ntmps22
  go_wp2
  go_loopw [3, 4] (fun v3 v4 wr => CRelW w n R v3 v4 wr) (fun _ v4 _ => n - (intOf v4).toNat)
  case atStart => exact ⟨0, .none, 0, by omega, rfl, rfl, World.ownsRow_nil _ _ _ _, Below.refl _ _⟩
  case round =>
    obtain ⟨i, q, c, hi, rfl, rfl, hO, hB⟩ := hrel
    have HB : Hid (Below w.heap.size w wr) := hB
    have HO : Hid (wr.ownsRow w.heap.size 23 1 (.slice q i c) i ((List.range i).map fun i => .int .u64 (R i))) := hO
    by_cases hin : i < n
    · rcases ha with h | ⟨g1, o1, rfl, hg1, r1⟩
      · omega
      have i1 : (i : Int) < n := by omega
      have k0 := (hB.cell (p := ⟨g1, o1 + i, .none⟩) hg1).trans (r1 i hin)
      have HOA : Hid (∀ o, (wr.alloc o).ownsRow w.heap.size 23 1 (.slice q i c) i ((List.range i).map fun i => .int .u64 (R i))) := fun o => hO.alloc o
      have HX : Hid (∃ x, x = R i) := ⟨_, rfl⟩
      obtain ⟨x, hx⟩ := HX.out
      have Hx : Hid (x = R i) := hx
      rw [← hx] at k0
      clear hB r1 hO hx HX
      go_wp2_with (first | (at_builtin; refine wpList_append_own _ rfl _ _ 22 rfl w.heap.size 23 j0 (.int .u64 0) 1 8 Tryz.underlying22 hj0 hjz hj1 hj2 rfl (by decide) _ _ ((List.range i).map fun i => .int .u64 (R i)) rfl (HOA.out _) ⟨wr.heap.size, 0, .none⟩ 1 1 [.int .u64 x] rfl rfl (cell_one_new _ _ _) (by simp [Value.oneCell']) (by unfold maxLen; omega) (by omega) (by simp only [World.size_alloc]; exact Nat.le_succ_of_le HB.out.size) ?_; intro v' w5 hown5 hgrow _) | fail)
      have hBA : Below w.heap.size w (wr.alloc (.cells #[.int .u64 x] 23)) := HB.out.alloc HB.out.size _
      have hB5 : Below w.heap.size w w5 := hBA.grown hgrow hBA.size (fun k hk => ((HO.out.lt k hk)).1)
      obtain ⟨g2, cap2, rfl⟩ := ownsRow_some hown5
      refine ⟨⟨i + 1, _, _, by omega, rfl, by simp, ?_, hB5⟩, by simp [intOf]; omega⟩
      rw [List.range_succ, List.map_append, List.map_singleton, ← Hx.out]
      exact hown5
    · have i1 : ¬ ((i : Int) < n) := by omega
      clear hB ha hO
      have hin' : i = n := by omega
      have HP : Hid (CopyRW w n R (.returned (.slice q i c)) wr) := by subst hin'; exact ⟨q, c, rfl, HO.out, HB.out⟩
      clear hin'
      go_wp2
      go_ret
      exact HP.out
theorem words_same {w : World} {n ca cb : Nat} {qa qb : Option Addr} {R : Nat → Int} (hn : n ≤ 1000000000) (ha : See w .u64 qa n R) (hb : See w .u64 qb n R) : Calls Tryz.prog 25 #[.slice qa n ca, .slice qb n cb] w fun e w' => e = .returned (.bool true) ∧ Below w.heap.size w w' := by
  go_enter Tryz.func25, Tryz.ntmps25
  go_wp2
  go_loopw [5] (fun k wr => ∃ i : Nat, i ≤ n ∧ k = .int .i64 i ∧ Below w.heap.size w wr) (fun k _ => n - (intOf k).toNat)
  case atStart => exact ⟨0, by omega, rfl, Below.refl _ _⟩
  case round =>
    obtain ⟨i, hi, rfl, hB⟩ := hrel
    have HB : Hid (Below w.heap.size w wr) := hB
    by_cases hin : i < n
    · rcases ha with h | ⟨g1, o1, rfl, hg1, r1⟩
      · omega
      rcases hb with h | ⟨g2, o2, rfl, hg2, r2⟩
      · omega
      have i1 : (i : Int) < n := by omega
      have k0 := (hB.cell (p := ⟨g1, o1 + i, .none⟩) hg1).trans (r1 i hin)
      have k1 := (hB.cell (p := ⟨g2, o2 + i, .none⟩) hg2).trans (r2 i hin)
      clear hB r1 r2
      generalize R i = x at *
      go_wp2
      go_quiet (fail)
      go_wp2
      exact ⟨⟨i + 1, by omega, by simp, below_drewN HB.out _⟩, by simp [intOf]; omega⟩
    · have i1 : ¬ ((i : Int) < n) := by omega
      clear hB ha hb
      go_wp2
      go_ret
      exact ⟨rfl, HB.out⟩
end Go.Proofs.YtblmkkhiojbcjaaGreat.Fz
namespace Go.Proofs.YtblmkkhiojbcjaaGreat.Fz
open Go.RowKit
set_option linter.unusedVariables false
set_option linter.unusedSimpArgs false
set_option maxHeartbeats 4000000 in
set_option maxRecDepth 100000 in
theorem freeW_any (M bl cl : Nat) (n : Nat → Nat) (v : Nat → Value) (xs0 : Nat → List Value) (w : World) (h100 : M ≤ 100) (hn : ∀ i, i < M → n i ≤ 1000000000) (hF0 : Fs 23 M n v w w xs0) (hap : Apart M v)
    (hbl : bl < w.heap.size) (hb : ∀ i, i < M → (v i).ownBlock ≠ some bl) (hc : ∀ i, i < M → w.cell? ⟨bl, i, .none⟩ = some (v i)) :
    Calls Tryz.prog 28 #[.slice (some ⟨bl, 0, .none⟩) M cl] w fun e w' => e = .returned (.bool true) ∧ ∃ xs, Fs 23 M n v w w' xs := by
  have HP : Hid (Apart M v) := hap
  have HL : Hid (∀ wr xs, Fs 23 M n v w wr xs → ∀ i, i < M → wr.cell? ⟨bl, i, .none⟩ = some (v i)) := fun wr xs hF i hi => (hF.cell bl i hbl hb).trans (hc i hi)
  have HF0 : Hid (Fs 23 M n v w w xs0) := hF0
  clear hap hb hc hF0
  go_enter Tryz.func28, Tryz.ntmps28
  go_wp2
  go_loopw [3] (fun i wr => ∃ (I : Nat) (xs : Nat → List Value), I ≤ M ∧ i = .int .i64 I ∧ Fs 23 M n v w wr xs ∧ ∀ t, t < I → ∀ j, j < n t → (xs t)[j]? = some (.int .u64 (4611686018427387905 + 2 * t))) (fun i _ => M - (intOf i).toNat)
  case atStart => exact ⟨0, xs0, by omega, rfl, HF0.out, fun t h => by omega⟩
  case round =>
    obtain ⟨I, xs, hI, rfl, hF, h1⟩ := hrel
    have HF : Hid (Fs 23 M n v w wr xs) := hF
    have H1 : Hid (∀ t, t < I → ∀ j, j < n t → (xs t)[j]? = some (.int .u64 (4611686018427387905 + 2 * t))) := h1
    clear hF h1
    by_cases hIM : I < M
    · have e0 : (I : Int) < M := by omega
      have hnI := hn I hIM
      obtain ⟨p, c, hv⟩ := one_slice (HF.out.row I hIM)
      obtain ⟨nI, hnn⟩ : ∃ k, n I = k := ⟨_, rfl⟩
      rw [hnn] at hnI
      have HV : Hid (v I = .slice p (n I) c ∧ n I = nI) := ⟨hv, hnn⟩
      clear hv hnn
      go_wp2
      go_loopw [4] (fun k wx => ∃ (K : Nat) (xs : Nat → List Value), K ≤ nI ∧ k = .int .i64 K ∧ Fs 23 M n v w wx xs ∧ (∀ t, t < I → ∀ j, j < n t → (xs t)[j]? = some (.int .u64 (4611686018427387905 + 2 * t))) ∧ (∀ j, j < K → (xs I)[j]? = some (.int .u64 (4611686018427387905 + 2 * I)))) (fun k _ => nI - (intOf k).toNat)
      case atStart => exact ⟨0, xs, by omega, rfl, HF.out, H1.out, fun j h => by omega⟩
      case round =>
        obtain ⟨K, xs1, hK, rfl, hF, h0, h1⟩ := hrel
        have c0 : wr.cell? ⟨bl, I, .none⟩ = some (.slice p nI c) := (HL.out wr xs1 hF I hIM).trans (by rw [HV.out.1, HV.out.2])
        by_cases hlt : K < nI
        · have hrow := hF.row I hIM
          rw [HV.out.1, HV.out.2] at hrow
          obtain ⟨g, rfl, hg0, hg1⟩ := row_shape hrow (by omega)
          have hlen : (xs1 I).length = nI := by have := hrow.1; omega
          have ck := hrow.cellAt K (by omega)
          rw [List.getElem?_eq_getElem (by omega)] at ck
          have fk := hrow.frozenAt K
          have e1 : (K : Int) < (nI : Int) := by omega
          generalize (xs1 I)[K] = old at ck
          have HS : Hid (Fs 23 M n v w (wr.setCell ⟨g, K, .none⟩ (.int .u64 (4611686018427387905 + 2 * I))) (fun i => if i = I then (xs1 I).set K (.int .u64 (4611686018427387905 + 2 * I)) else xs1 i)) := hF.set HP.out I hIM g c HV.out.1 K (.int .u64 (4611686018427387905 + 2 * I))
          have HT : Hid (∀ j, j < K + 1 → ((xs1 I).set K (.int .u64 (4611686018427387905 + 2 * I)))[j]? = some (.int .u64 (4611686018427387905 + 2 * I))) := set_first (xs1 I) K nI (.int .u64 (4611686018427387905 + 2 * I)) hlen hlt h1
          have H0 : Hid (∀ t, t < I → ∀ j, j < n t → (xs1 t)[j]? = some (.int .u64 (4611686018427387905 + 2 * t))) := h0
          clear hF h1 h0 hrow
          go_wp2
          exact ⟨⟨K + 1, _, by omega, by go_num, HS.out, fun t ht j hj => by rw [if_neg (by omega)]; exact H0.out t ht j hj, fun j hj => by rw [if_pos rfl]; exact HT.out j hj⟩, by simp [intOf]; omega⟩
        · have e1 : decide ((K : Int) < (nI : Int)) = false := by simp; omega
          have HS : Hid (Fs 23 M n v w wr xs1) := hF
          have HT : Hid (∀ j, j < K → (xs1 I)[j]? = some (.int .u64 (4611686018427387905 + 2 * I))) := h1
          have H0 : Hid (∀ t, t < I → ∀ j, j < n t → (xs1 t)[j]? = some (.int .u64 (4611686018427387905 + 2 * t))) := h0
          clear hF h1 h0
          go_wp2
          exact ⟨⟨I + 1, xs1, by omega, by go_num, HS.out, fun t ht j hj => by
            by_cases e : t = I
            · subst e; exact HT.out j (by have := HV.out.2; omega)
            · exact H0.out t (by omega) j hj⟩, by simp [intOf]; omega⟩
    · have e0 : decide ((I : Int) < M) = false := by simp; omega
      obtain rfl : M = I := by omega
      have HX : Hid (∀ t, t < M → ∀ j, j < n t → (xs t)[j]? = some (.int .u64 (4611686018427387905 + 2 * t))) := H1.out
      clear H1
      obtain ⟨i3, z3, hi3, hz3, hs3, hb3, hzs3⟩ := info_of 23 8 (by kernel_rfl) (by kernel_rfl)
      obtain ⟨i9, z9, hi9, hz9, hs9, hb9, hzs9⟩ := info_of 22 24 (by kernel_rfl) (by kernel_rfl)
      have HI : Hid (Tryz.prog.info? 23 = some i3 ∧ i3.zero = some z3 ∧ i3.size = 1 ∧ i3.bytes = 8 ∧ z3.cells.size = 1) := ⟨hi3, hz3, hs3, hb3, hzs3⟩
      have HJ : Hid (Tryz.prog.info? 22 = some i9 ∧ i9.zero = some z9 ∧ i9.size = 1 ∧ i9.bytes = 24 ∧ z9.cells.size = 1) := ⟨hi9, hz9, hs9, hb9, hzs9⟩
      clear hi3 hz3 hs3 hb3 hzs3 hi9 hz9 hs9 hb9 hzs9
      have HVL : Hid (∀ i, i < M → ∀ g, (v i).ownBlock = some g → g < w.heap.size) := fun i hi g hg => ((HF0.out.row i hi).lt g hg).2
      go_wp2
      go_loopw [5, 6] (fun mo i wx => ∃ (I : Nat) (ms : List Value), I ≤ M ∧ i = .int .i64 I ∧ Fs 23 M n v w wx xs ∧ wx.ownsRow 0 22 1 mo I ms ∧ Blk w.heap.size (.slice none 0 0) mo ∧ Done 23 (fun t => .int .u64 (2305843009213693953 + 2 * t)) n v M I wx.heap.size wx ms) (fun _ i _ => M - (intOf i).toNat)
      case atStart => exact ⟨0, [], by omega, rfl, HF.out, World.ownsRow_nil _ _ _ _, .inl rfl, fun t h => by omega⟩
      case round =>
        obtain ⟨I, ms, hI, rfl, hF, hM, hMb, hD⟩ := hrel
        by_cases hIM : I < M
        · have e0 : (I : Int) < M := by omega
          have hnI := hn I hIM
          obtain ⟨p, c, hv⟩ := one_slice (hF.row I hIM)
          obtain ⟨nI, hnn⟩ : ∃ k, n I = k := ⟨_, rfl⟩
          rw [hnn] at hnI
          have HV : Hid (v I = .slice p (n I) c ∧ n I = nI) := ⟨hv, hnn⟩
          clear hv hnn
          have c0 : wr.cell? ⟨bl, I, .none⟩ = some (.slice p nI c) := (HL.out wr xs hF I hIM).trans (by rw [HV.out.1, HV.out.2])
          have HF1 : Hid (Fs 23 M n v w wr xs) := hF
          have HM1 : Hid (wr.ownsRow 0 22 1 u5 I ms) := hM
          have HMb : Hid (Blk w.heap.size (.slice none 0 0) u5) := hMb
          have HD1 : Hid (Done 23 (fun t => .int .u64 (2305843009213693953 + 2 * t)) n v M I wr.heap.size wr ms) := hD
          have HR1 : Hid (wr.ownsRow 0 23 1 (.slice p nI c) nI (xs I)) := by
            have := hF.row I hIM
            rw [HV.out.1, HV.out.2] at this
            exact this
          have HSz : Hid (w.heap.size ≤ wr.heap.size) := hF.size
          clear hF hM hMb hD
          generalize hS1 : wr.heap.size = S1 at HD1 HSz
          have hS : Hid (wr.heap.size = S1) := hS1
          clear hS1
          go_wp2
          go_loopw [7, 8] (fun m k wx => ∃ (K : Nat) (zs : List Value), K ≤ 64 ∧ k = .int .i64 K ∧ Fs 23 M n v w wx xs ∧ wx.ownsRow 0 23 1 m (nI + K) zs ∧ (∀ j, j < K → zs[nI + j]? = some (.int .u64 (2305843009213693953 + 2 * I))) ∧ Blk S1 (v I) m ∧ wx.ownsRow 0 22 1 u5 I ms ∧ Done 23 (fun t => .int .u64 (2305843009213693953 + 2 * t)) n v M I S1 wx ms ∧ S1 ≤ wx.heap.size) (fun _ k _ => 64 - (intOf k).toNat)
          case atStart => exact ⟨0, xs I, by omega, rfl, HF1.out, HR1.out, fun j h => by omega, .inl (by rw [HV.out.1, HV.out.2]), HM1.out, HD1.out, Nat.le_of_eq hS.out.symm⟩
          case round =>
            obtain ⟨K, zs, hK, rfl, hF, hO, hz, hBk, hM, hD, hS1⟩ := hrel
            by_cases hlt : K < 64
            · have e1 : (K : Int) < 64 := by omega
              have hlen : zs.length = nI + K := by have := hO.1; omega
              have HF2 : Hid (Fs 23 M n v w wr xs) := hF
              have HO2 : Hid (wr.ownsRow 0 23 1 u7 (nI + K) zs) := hO
              have HZ2 : Hid (∀ j, j < K → zs[nI + j]? = some (.int .u64 (2305843009213693953 + 2 * I))) := hz
              have HB2 : Hid (Blk S1 (v I) u7) := hBk
              have HM : Hid (wr.ownsRow 0 22 1 u5 I ms) := hM
              have HD2 : Hid (Done 23 (fun t => .int .u64 (2305843009213693953 + 2 * t)) n v M I S1 wr ms) := hD
              clear hF hO hz hBk hM hD
              go_wp2_with (first
                | (at_builtin; refine wpList_append_keep _ rfl _ _ 22 rfl 0 23 i3 z3 8 Tryz.underlying22 HI.out.1 HI.out.2.1 HI.out.2.2.1 HI.out.2.2.2.1 HI.out.2.2.2.2 _ (nI + K) zs rfl (HO2.out.alloc _) ⟨wr.heap.size, 0, .none⟩ 1 (.int .u64 (2305843009213693953 + 2 * I)) rfl ?c1 ?c2 ?c3 ?c4 ?c5 ?c6 ?_)
                | go_in)
              case c1 => simp
              case c2 => rfl
              case c3 => rfl
              case c4 => unfold maxLen; omega
              case c5 => omega
              case c6 => exact Nat.zero_le _
              · intro v' w2 own' grow keep b fb fc
                have fresh : ∃ b, v'.ownBlock = some b ∧ (u7.ownBlock = some b ∨ _ ≤ b) := ⟨b, fb, fc⟩
                have HW : Hid (Fs 23 M n v w w2 xs ∧ w2.ownsRow 0 23 1 v' (nI + (K + 1)) (zs ++ [.int .u64 (2305843009213693953 + 2 * I)]) ∧ Blk S1 (v I) v' ∧ w2.ownsRow 0 22 1 u5 I ms ∧ Done 23 (fun t => .int .u64 (2305843009213693953 + 2 * t)) n v M I S1 w2 ms ∧ S1 ≤ w2.heap.size) := by
                  have fa := HF2.out.alloc (.cells #[.int .u64 (2305843009213693953 + 2 * I)] 23)
                  have hs2 : S1 ≤ (wr.alloc (.cells #[.int .u64 (2305843009213693953 + 2 * I)] 23)).heap.size := by simp only [World.size_alloc]; omega
                  have hrw : ∀ i, i < M → w2.ownsRow 0 23 1 (v i) (n i) (xs i) := fun i hi => by
                    refine keep _ _ _ (fun e => ?_) (fa.row i hi)
                    by_cases ei : i = I
                    · subst ei
                      have := HV.out.2
                      omega
                    · rcases HB2.out with hb | ⟨b', hb, hb'⟩
                      · cases hvi : (v i).ownBlock with
                        | none =>
                          rcases (HF0.out.row i hi).2 with ⟨_, h0⟩ | ⟨g, _, _, hg, _⟩
                          · omega
                          · rw [hg] at hvi; cases hvi
                        | some g => exact absurd ((hb.symm.trans e.symm).trans hvi) (HP.out i I hi hIM ei g hvi)
                      · have := HVL.out i hi b' (e.trans hb)
                        have := HSz.out
                        omega
                  exact ⟨fa.grown grow (.inl ⟨I, hIM, HB2.out.mono HSz.out⟩) hrw, own', HB2.out.next hs2 (by simpa only [World.size_alloc] using fresh), (HM.out.alloc _).kept grow (kinds_apart1 (HM.out.alloc (.cells #[.int .u64 (2305843009213693953 + 2 * I)] 23)) (HO2.out.alloc (.cells #[.int .u64 (2305843009213693953 + 2 * I)] 23)) (by decide)), (HD2.out.alloc _).keep hIM HB2.out keep, Nat.le_trans hs2 grow.size⟩
                clear own' grow keep fresh fb fc
                go_wp2
                go_roundw
                case rel =>
                  refine ⟨K + 1, zs ++ [.int .u64 (2305843009213693953 + 2 * I)], by omega, ?_, HW.out.1, HW.out.2.1, app_zs zs nI K _ hlen HZ2.out, HW.out.2.2.1, HW.out.2.2.2.1, HW.out.2.2.2.2.1, HW.out.2.2.2.2.2⟩
                  go_num
                case measure => simp [intOf]; omega
            · have e1 : decide ((K : Int) < 64) = false := by simp; omega
              obtain rfl : K = 64 := by omega
              obtain ⟨p7, c7, rfl⟩ := one_slice hO
              have HF2 : Hid (Fs 23 M n v w wr xs) := hF
              have HO2 : Hid (RowZ 23 nI wr (.slice p7 (nI + 64) c7) (.int .u64 (2305843009213693953 + 2 * I))) := ⟨zs, hO, hz⟩
              have HB2 : Hid (Blk S1 (v I) (.slice p7 (nI + 64) c7)) := hBk
              have HM : Hid (wr.ownsRow 0 22 1 u5 I ms) := hM
              have HD2 : Hid (Done 23 (fun t => .int .u64 (2305843009213693953 + 2 * t)) n v M I S1 wr ms) := hD
              have hml : ms.length = I := by have := hM.1; omega
              clear hF hO hz hBk hM hD
              go_wp2_with (first
                | (at_builtin; refine wpList_append_keep _ rfl _ _ 54 rfl 0 22 i9 z9 24 Tryz.underlying54 HJ.out.1 HJ.out.2.1 HJ.out.2.2.1 HJ.out.2.2.2.1 HJ.out.2.2.2.2 _ I ms rfl (HM.out.alloc _) ⟨wr.heap.size, 0, .none⟩ 1 (.slice p7 (nI + 64) c7) rfl ?c1 ?c2 ?c3 ?c4 ?c5 ?c6 ?_)
                | go_in)
              case c1 => simp
              case c2 => rfl
              case c3 => rfl
              case c4 => unfold maxLen; omega
              case c5 => omega
              case c6 => exact Nat.zero_le _
              · intro v' w2 own' grow keep b fb fc
                have fresh : ∃ b, v'.ownBlock = some b ∧ (u5.ownBlock = some b ∨ _ ≤ b) := ⟨b, fb, fc⟩
                have HW : Hid (Fs 23 M n v w w2 xs ∧ w2.ownsRow 0 22 1 v' (I + 1) (ms ++ [.slice p7 (nI + 64) c7]) ∧ Blk w.heap.size (.slice none 0 0) v' ∧ Done 23 (fun t => .int .u64 (2305843009213693953 + 2 * t)) n v M (I + 1) w2.heap.size w2 (ms ++ [.slice p7 (nI + 64) c7])) := by
                  have fa := HF2.out.alloc (.cells #[.slice p7 (nI + 64) c7] 22)
                  have ma := HM.out.alloc (.cells #[.slice p7 (nI + 64) c7] 22)
                  have hs2 : w.heap.size ≤ (wr.alloc (.cells #[.slice p7 (nI + 64) c7] 22)).heap.size := fa.size
                  have hs3 : S1 ≤ w2.heap.size := by have := grow.size; simp only [World.size_alloc] at this; omega
                  have hz2 : RowZ 23 (n I) w2 (.slice p7 (nI + 64) c7) (.int .u64 (2305843009213693953 + 2 * I)) := by rw [HV.out.2]; exact (HO2.out.alloc _).moved ma (by decide) grow
                  exact ⟨fa.grown grow (.inr HMb.out) (fun i hi => (fa.row i hi).kept grow (kinds_apart1 (fa.row i hi) ma (by decide))), own', HMb.out.next hs2 (by simpa only [World.size_alloc] using fresh), ((HD2.out.alloc _).moved ma (by decide) grow).next hml hIM HB2.out hz2 HP.out (fun i hi g hg => Nat.lt_of_lt_of_le (HVL.out i hi g hg) HSz.out) hs3⟩
                clear own' grow keep fresh fb fc
                go_wp2
                go_roundw
                case rel =>
                  refine ⟨I + 1, ms ++ [.slice p7 (nI + 64) c7], by omega, ?_, HW.out.1, HW.out.2.1, HW.out.2.2.1, HW.out.2.2.2⟩
                  go_num
                case measure => simp [intOf]; omega
        · have e0 : decide ((I : Int) < M) = false := by simp; omega
          obtain rfl : M = I := by omega
          have HF3 : Hid (Fs 23 M n v w wr xs) := hF
          have HD3 : Hid (Done 23 (fun t => .int .u64 (2305843009213693953 + 2 * t)) n v M M wr.heap.size wr ms) := hD
          have HM3 : Hid (wr.ownsRow 0 22 1 u5 M ms) := hM
          clear hF hM hMb hD
          go_wp2
          go_loopw [9] (fun i wx => ∃ I : Nat, I ≤ M ∧ i = .int .i64 I ∧ wx = wr) (fun i _ => M - (intOf i).toNat)
          case atStart => exact ⟨0, by omega, rfl, rfl⟩
          case round =>
            obtain ⟨I, hI, rfl, rfl⟩ := hrel
            by_cases hIM : I < M
            · have e0 : (I : Int) < M := by omega
              have hnI := hn I hIM
              obtain ⟨p, c, hv⟩ := one_slice (HF3.out.row I hIM)
              obtain ⟨nI, hnn⟩ : ∃ k, n I = k := ⟨_, rfl⟩
              rw [hnn] at hnI
              have HV : Hid (v I = .slice p (n I) c ∧ n I = nI) := ⟨hv, hnn⟩
              clear hv hnn
              have c0 : wr.cell? ⟨bl, I, .none⟩ = some (.slice p nI c) := (HL.out wr xs HF3.out I hIM).trans (by rw [HV.out.1, HV.out.2])
              obtain ⟨pm, cm, rfl⟩ := one_slice HM3.out
              obtain ⟨gm, rfl, hgm0, hgm1⟩ := row_shape HM3.out (by omega)
              obtain ⟨mI, hmI, ⟨zs, hzo, hzz⟩, _, _⟩ := HD3.out I hIM
              obtain ⟨px, cx, rfl⟩ := one_slice hzo
              obtain ⟨gx, rfl, hgx0, hgx1⟩ := row_shape hzo (by omega)
              rw [HV.out.2] at hzo hzz hmI
              have q0 : wr.cell? ⟨gm, I, .none⟩ = some (.slice (some ⟨gx, 0, .none⟩) (nI + 64) cx) := (HM3.out.cellAt I (by omega)).trans hmI
              have HG : Hid (∀ j, j < 64 → wr.cell? ⟨gx, nI + j, .none⟩ = some (.int .u64 (2305843009213693953 + 2 * I))) := fun j hj => (hzo.cellAt (nI + j) (by omega)).trans (hzz j hj)
              have HRo : Hid (wr.ownsRow 0 23 1 (.slice p nI c) nI (xs I)) := by
                have := HF3.out.row I hIM
                rw [HV.out.1, HV.out.2] at this
                exact this
              clear hmI hzo hzz
              go_wp2
              go_loopw [11] (fun k wx => ∃ K : Nat, K ≤ nI ∧ k = .int .i64 K ∧ wx = wr) (fun k _ => nI - (intOf k).toNat)
              case atStart => exact ⟨0, by omega, rfl, rfl⟩
              case round =>
                obtain ⟨K, hK, rfl, rfl⟩ := hrel
                by_cases hlt : K < nI
                · obtain ⟨g, rfl, hg0, hg1⟩ := row_shape HRo.out (by omega)
                  have ck := (HRo.out.cellAt K (by omega)).trans (HX.out I hIM K (by have := HV.out.2; omega))
                  have e1 : (K : Int) < (nI : Int) := by omega
                  go_wp2
                  exact ⟨⟨K + 1, by omega, by go_num, trivial⟩, by simp [intOf]; omega⟩
                · have e1 : decide ((K : Int) < (nI : Int)) = false := by simp; omega
                  go_wp2
                  go_loopw [12] (fun k wx => ∃ K : Nat, K ≤ 64 ∧ k = .int .i64 K ∧ wx = wr) (fun k _ => 64 - (intOf k).toNat)
                  case atStart => exact ⟨0, by omega, rfl, rfl⟩
                  case round =>
                    obtain ⟨J, hJ, rfl, rfl⟩ := hrel
                    by_cases hlt : J < 64
                    · have q1 : wr.cell? ⟨gx, nI + J, .none⟩ = some (.int .u64 (2305843009213693953 + 2 * I)) := HG.out J hlt
                      have e2 : (J : Int) < 64 := by omega
                      have e3 : (nI : Int) + (J : Int) < (nI : Int) + 64 := by omega
                      go_wp2
                      exact ⟨⟨J + 1, by omega, by go_num, trivial⟩, by simp [intOf]; omega⟩
                    · have e2 : decide ((J : Int) < 64) = false := by simp; omega
                      go_wp2
                      exact ⟨⟨I + 1, by omega, by go_num, trivial⟩, by simp [intOf]; omega⟩
            · have e0 : decide ((I : Int) < M) = false := by simp; omega
              go_wp2
              go_ret
              exact ⟨rfl, xs, HF3.out⟩
end Go.Proofs.YtblmkkhiojbcjaaGreat.Fz
namespace Go.Proofs.YtblmkkhiojbcjaaGreat
open Go Go.RowKit Fz
attribute [local go_sem] Oper.semAt_some
set_option linter.unusedVariables false
set_option linter.unusedSimpArgs false
def atv (R : Nat → Int) (n i : Nat) : Int := if i < n then R i else 0
def pgV (a : Int) : Int := a % 3 * 1073741824 + a / 256 % 3 * 2097152 + a / 65536 % 4 * 4096
def pgA (b : Int) : Int := 2147483648 + b % 5000 * 4096
theorem pgV_b (a : Int) : 0 ≤ pgV a ∧ pgV a % 4096 = 0 ∧ pgV a < 274877906944 := by unfold pgV; omega
theorem pgA_b (b : Int) : 0 ≤ pgA b ∧ pgA b % 4096 = 0 ∧ pgA b < 72057594037927936 := by unfold pgA; omega
end Go.Proofs.YtblmkkhiojbcjaaGreat
