import Derived.Test.YtbpgdepgplmpnaaHoldM
import Derived.OwnWalk
import Derived.Maps.AppendAt
namespace Go.Proofs.Ytbpgdepgplmpnaa
open Go.RowKit
set_option linter.unusedVariables false
set_option linter.unusedSimpArgs false
def ad (i : Nat) : Int := 2147483648 + (i : Int) * 4096
structure St (w0 w : World) (X p b m N : Nat) (B : Nat → Int) (L : List Nat) (q : Option Addr) (c : Nat) (bl : List Ent) (q' : Option Addr) (c' : Nat) (kl : List Int) : Prop where
  ram : Ram w p b m N B L
  row : w.ownsRow X 52 3 (.slice q bl.length c) bl.length (flat bl)
  bak : w.ownsRow X 22 1 (.slice q' kl.length c') kl.length (kl.map (.int .u64))
  len : bl.length + L.length + 1 = N
  kp : ∀ x ∈ bl, 1 ≤ x.1 ∧ x.1 < N ∧ x.1 ∉ L ∧ Full B x
  inj : ∀ i j (hi : i < bl.length) (hj : j < bl.length), bl[i].1 = bl[j].1 → i = j
  stk : ∃ rest, L.map ad = kl.reverse ++ rest
  bel : Below w0.heap.size w0 w
  xs : X ≤ w.heap.size
section
variable {w0 w w' : World} {X p b m N c c' : Nat} {B : Nat → Int} {L : List Nat} {q q' : Option Addr} {bl : List Ent} {kl : List Int}
theorem St.kll (h : St w0 w X p b m N B L q c bl q' c' kl) : kl.length ≤ L.length := by
  obtain ⟨rest, e⟩ := h.stk
  have := congrArg List.length e
  simp at this
  omega
theorem St.below (h : St w0 w X p b m N B L q c bl q' c' kl) (k : Below w.heap.size w w') : St w0 w' X p b m N B L q c bl q' c' kl :=
  ⟨h.ram.mem' (h.ram.mem.below k), owns_below h.row k, owns_below h.bak k, h.len, h.kp, h.inj, h.stk, h.bel.trans (k.mono h.bel.size), Nat.le_trans h.xs k.size⟩
theorem St.kept (h : St w0 w X p b m N B L q c bl q' c' kl) (hN : N ≤ 40) :
    Calls Try.prog 22 #[.pointer (some ⟨p, 0, .none⟩), .slice q bl.length c, .int .i64 N] w fun e w' => e = .returned (.bool true) ∧ St w0 w' X p b m N B L q c bl q' c' kl :=
  (kept_ok q c bl h.ram hN (hasM_of h.row) h.len (fun x hx => ⟨(h.kp x hx).2.1, (h.kp x hx).2.2.1, (h.kp x hx).2.2.2.kp⟩)).mono (fun e w' ⟨he, hb⟩ => ⟨he, h.below hb⟩)
end
def Rel (w : World) (X p b m N n : Nat) (kb kk ki : Value) (wr : World) : Prop :=
  ∃ (i : Nat) (B : Nat → Int) (L : List Nat) (q : Option Addr) (c : Nat) (bl : List Ent) (q' : Option Addr) (c' : Nat) (kl : List Int), i ≤ n ∧ kb = .slice q bl.length c ∧ kk = .slice q' kl.length c' ∧ ki = .int .i64 i ∧ St w wr X p b m N B L q c bl q' c' kl
theorem add_block (a : Addr) (i : Nat) : (a.add i).block = a.block := by unfold Addr.add; split <;> rfl
theorem info52 : ∃ i, Try.prog.info? 52 = some i ∧ i.zero = some (.agg #[.int .u64 0, .int .u64 0, .int .u64 0]) ∧ i.size = 3 ∧ i.bytes = 24 := by
  have h : (Try.prog.info? 52).map (fun i => (i.zero, i.size, i.bytes)) = some (some (.agg #[.int .u64 0, .int .u64 0, .int .u64 0]), 3, 24) := by kernel_rfl
  cases hq : Try.prog.info? 52 with
  | none => rw [hq] at h; cases h
  | some i =>
    rw [hq] at h
    simp only [Option.map_some, Option.some.injEq, Prod.mk.injEq] at h
    exact ⟨i, rfl, h⟩
theorem info22 : ∃ i, Try.prog.info? 22 = some i ∧ i.zero = some (.int .u64 0) ∧ i.size = 1 ∧ i.bytes = 8 := by
  have h : (Try.prog.info? 22).map (fun i => (i.zero, i.size, i.bytes)) = some (some (.int .u64 0), 1, 8) := by kernel_rfl
  cases hq : Try.prog.info? 22 with
  | none => rw [hq] at h; cases h
  | some i =>
    rw [hq] at h
    simp only [Option.map_some, Option.some.injEq, Prod.mk.injEq] at h
    exact ⟨i, rfl, h⟩
theorem cell3_new (w : World) (x y z : Value) (t : TypeId) : ∀ j u, [x, y, z][j]? = some u → (w.alloc (.cells #[x, y, z] t)).cell? ((⟨w.heap.size, 0, .none⟩ : Addr).add j) = some u := by
  intro j u hj
  rw [addr_add, World.cell?_alloc_at _ _ _ _ rfl, Nat.zero_add]
  simpa using hj
theorem one3 (x y z : Int) : ∀ u ∈ [Value.int .u64 x, .int .u64 y, .int .u64 z], u.oneCell' = true := by
  intro u hu
  simp only [List.mem_cons, List.not_mem_nil, or_false] at hu
  rcases hu with rfl | rfl | rfl <;> rfl
theorem ownsRow_some {W : World} {base e size k : Nat} {v : Value} {xs : List Value} (h : W.ownsRow base e size v (k + 1) xs) : ∃ g cap, v = .slice (some ⟨g, 0, .none⟩) (k + 1) cap := by
  rcases h.2 with ⟨_, h0⟩ | ⟨g, cap, _, rfl, _⟩
  · omega
  · exact ⟨g, cap, rfl⟩
/-- Rows of unlike kinds lie apart. -/
theorem kinds_apart {w : World} {X e1 e2 s1 s2 n1 n2 : Nat} {v1 v2 : Value} {xs1 xs2 : List Value} (h1 : w.ownsRow X e1 s1 v1 n1 xs1) (h2 : w.ownsRow X e2 s2 v2 n2 xs2) (he : e1 ≠ e2) : v1.ownBlock = none ∨ v1.ownBlock ≠ v2.ownBlock := by
  rcases h1.2 with ⟨rfl, _⟩ | ⟨g1, c1, cur1, rfl, _, hh1, _⟩
  · exact .inl rfl
  · rcases h2.2 with ⟨rfl, _⟩ | ⟨g2, c2, cur2, rfl, _, hh2, _⟩
    · exact .inr (by simp [Value.ownBlock])
    · refine .inr (fun e => ?_)
      simp only [Value.ownBlock, Option.some.injEq] at e
      subst e
      rw [hh1] at hh2
      injection hh2 with hh2
      injection hh2 with _ e3
      exact he e3
theorem own_cell {w : World} {X e n c g s : Nat} {xs : List Value} (h : w.ownsRow X e s (.slice (some ⟨g, 0, .none⟩) n c) n xs) (j : Nat) (u : Value) (hj : xs[j]? = some u) : w.cell? ⟨g, j, .none⟩ = some u := by
  have := h.cells (g := g) rfl j u hj
  rwa [addr_add, Nat.zero_add] at this
/-- Behind the append to the book. -/
theorem new_book {w0 w4 w5 : World} {X p b m N c c' M g1 cap1 : Nat} {B : Nat → Int} {l : List Nat} {q q' : Option Addr} {bl : List Ent} {kl : List Int} {T s A : Int} {i0 : Nat} {o : Obj} (hR : Ram w4 p b m N B l) (hrow : w4.ownsRow X 52 3 (.slice q bl.length c) bl.length (flat bl)) (hbak : w4.ownsRow X 22 1 (.slice q' kl.length c') kl.length (kl.map (.int .u64)))
    (hB : Below w0.heap.size w0 w4) (hX : X ≤ w4.heap.size) (hM : bl.length = M) (hown : w5.ownsRow X 52 3 (.slice (some ⟨g1, 0, .none⟩) (M + 1) cap1) (M + 1) (flat bl ++ [.int .u64 A, .int .u64 T, .int .u64 s]))
    (hg : (w4.alloc o).grownBy w5 (Value.ownBlock (.slice q M c))) (hA : 2147483648 + (i0 : Int) * 4096 = A) (h1 : p < X) (h2 : b < X) (h3 : m < X) (hwX : w0.heap.size ≤ X) :
    Hid (Ram w5 p b m N B l ∧ w5.ownsRow X 52 3 (.slice (some ⟨g1, 0, .none⟩) (bl ++ [((i0, T, s) : Ent)]).length cap1) (bl ++ [((i0, T, s) : Ent)]).length (flat (bl ++ [((i0, T, s) : Ent)])) ∧ w5.ownsRow X 22 1 (.slice q' kl.length c') kl.length (kl.map (.int .u64)) ∧ Below w0.heap.size w0 w5 ∧ X ≤ w5.heap.size ∧ w5.cell? ⟨g1, M * 3 + 1, .none⟩ = some (.int .u64 T)) := by
  have hrow' : w4.ownsRow X 52 3 (.slice q M c) M (flat bl) := hM ▸ hrow
  have hr : ∀ k, Value.ownBlock (.slice q M c) = some k → X ≤ k := fun k hk => (hrow'.lt k hk).1
  have hga : (w4.alloc o).grownBy w5 (Value.ownBlock (.slice q M c)) := hg
  refine ⟨hR.mem' ((hR.mem.alloc o).grown hga hr h1 h2 h3), ?_, (hbak.alloc o).kept hga (kinds_apart hbak hrow' (by decide)), ?_, ?_, ?_⟩
  · have e : flat (bl ++ [((i0, T, s) : Ent)]) = flat bl ++ [.int .u64 A, .int .u64 T, .int .u64 s] := by rw [flat_append]; unfold pa; rw [hA]
    rw [e, show (bl ++ [((i0, T, s) : Ent)]).length = M + 1 by simp [hM]]
    exact hown
  · exact (hB.alloc (Nat.le_trans hB.size (Nat.le_refl _)) o).grown hga (by simp; have := hB.size; omega) (fun k hk => Nat.le_trans hwX (hr k hk))
  · have := hga.size
    simp only [World.size_alloc] at this
    omega
  · refine own_cell hown _ _ ?_
    rw [List.getElem?_append_right (by rw [flat_len, hM]; omega), flat_len, hM, show M * 3 + 1 - M * 3 = 1 by omega]
    rfl
theorem inj_snoc (bl : List Ent) (x : Ent) (h : ∀ i j (hi : i < bl.length) (hj : j < bl.length), bl[i].1 = bl[j].1 → i = j) (hx : ∀ y ∈ bl, y.1 ≠ x.1) : ∀ i j (hi : i < (bl ++ [x]).length) (hj : j < (bl ++ [x]).length), (bl ++ [x])[i].1 = (bl ++ [x])[j].1 → i = j := by
  intro i j hi hj e
  simp only [List.length_append, List.length_cons, List.length_nil] at hi hj
  by_cases h1 : i < bl.length
  · by_cases h2 : j < bl.length
    · rw [List.getElem_append_left h1, List.getElem_append_left h2] at e
      exact h i j h1 h2 e
    · rw [List.getElem_append_left h1, List.getElem_append_right (by omega)] at e
      simp only [List.getElem_singleton] at e
      exact absurd e (hx _ (List.getElem_mem h1))
  · by_cases h2 : j < bl.length
    · rw [List.getElem_append_left h2, List.getElem_append_right (by omega)] at e
      simp only [List.getElem_singleton] at e
      exact absurd e.symm (hx _ (List.getElem_mem h2))
    · omega
theorem store_new {w0 wr w5 : World} {X p b m N c c' c'' cap1 g1 : Nat} {B : Nat → Int} {l : List Nat} {q q' q'' : Option Addr} {bl : List Ent} {kl kl' : List Int} {T s A : Int} {i0 : Nat} (hI : St w0 wr X p b m N B (i0 :: l) q c bl q' c' kl) (hR : Ram w5 p b m N (zer B i0) l)
    (hrow : w5.ownsRow X 52 3 (.slice (some ⟨g1, 0, .none⟩) (bl ++ [((i0, T, s) : Ent)]).length cap1) (bl ++ [((i0, T, s) : Ent)]).length (flat (bl ++ [((i0, T, s) : Ent)]))) (hbak : w5.ownsRow X 22 1 (.slice q'' kl'.length c'') kl'.length (kl'.map (.int .u64))) (hB : Below w0.heap.size w0 w5) (hX : X ≤ w5.heap.size)
    (hT : 0 ≤ T ∧ T < 4096 ∧ T % 8 = 0) (hs : 0 ≤ s ∧ s < 18446744073709551616) (hA : 2147483648 + (i0 : Int) * 4096 = A) (hp : p < X) (hb : b < X) (hm : m < X) (hk : ∃ rest, l.map ad = kl'.reverse ++ rest) (h1 : w0.heap.size ≤ p) (h2 : w0.heap.size ≤ b) (h3 : w0.heap.size ≤ m) :
    Calls Try.prog 11 #[.pointer (some ⟨p, 0, .none⟩), .int .u64 (A + T), .int .i64 8, .int .u64 s] w5 fun e w6 => e = .returned (.bool true) ∧ St w0 w6 X p b m N (over (zer B i0) (i0 * 4096 + T.toNat) (le s 8)) l (some ⟨g1, 0, .none⟩) cap1 (bl ++ [((i0, T, s) : Ent)]) q'' c'' kl' := by
  have hi0 := hI.ram.lt i0 (List.mem_cons_self ..)
  have hnd := List.nodup_cons.1 hI.ram.nd
  have hlen := hI.len
  simp only [List.length_cons] at hlen
  have c := store_ok hR.mem (i0 * 4096 + T.toNat) 8 (by omega) (by omega) (hdL_ok N l _ 8 (fun f hf1 hf2 => by
    have : f = i0 := by omega
    rw [this]
    exact ⟨hi0.2, hnd.1⟩)) s hs
  rw [show (2147483648 + ((i0 * 4096 + T.toNat : Nat) : Int)) = A + T by omega, show ((8 : Nat) : Int) = 8 from rfl] at c
  refine c.mono ?_
  rintro e w6 ⟨rfl, M6, F6⟩
  have hxi : ∀ y ∈ bl, y.1 ≠ i0 := fun y hy e => by
    have := (hI.kp y hy).2.2.1
    rw [e] at this
    exact this (List.mem_cons_self ..)
  refine ⟨rfl, hR.laid M6 (fun j hj => by have : j ≠ i0 := fun e => hnd.1 (e ▸ hj); rw [le_len]; omega), owns_fra hrow F6 hp hb hm, owns_fra hbak F6 hp hb hm, by simp only [List.length_append, List.length_cons, List.length_nil]; omega, ?_, inj_snoc bl _ hI.inj hxi, hk, hB.trans (F6.toBelow hB.size h1 h2 h3), Nat.le_trans hX F6.size⟩
  intro x hx
  rcases List.mem_append.1 hx with hx | hx
  · have hk1 := hI.kp x hx
    refine ⟨hk1.1, hk1.2.1, fun h => hk1.2.2.1 (List.mem_cons_of_mem _ h), (hk1.2.2.2.congr (fun k hk => ?_)).congr (fun k hk => over_other (zer B i0) i0 x.1 T.toNat s (by omega) (hxi x hx) k hk)⟩
    exact zer_out B i0 _ (by have := hxi x hx; omega)
  · simp only [List.mem_singleton] at hx
    subst hx
    exact ⟨hi0.1, hi0.2, hnd.1, Full.lay i0 T s hT.1 hT.2.1 hT.2.2 hs (fun k hk _ => zer_in B i0 k hk)⟩
theorem stk_pop {i0 K : Nat} {l : List Nat} {kl rest : List Int} (h : (i0 :: l).map ad = kl.reverse ++ rest) (hk : kl.length = K + 1) : kl[K]? = some (ad i0) ∧ l.map ad = (kl.take K).reverse ++ rest ∧ (kl.take K).length = K := by
  cases hr : kl.reverse with
  | nil =>
    have := congrArg List.length hr
    simp at this
    rw [this] at hk
    simp at hk
  | cons a t =>
    have e : kl = t.reverse ++ [a] := by
      have := congrArg List.reverse hr
      simpa using this
    rw [hr] at h
    simp only [List.map_cons, List.cons_append, List.cons.injEq] at h
    have ht : t.length = K := by
      rw [e] at hk
      simp at hk
      exact hk
    subst e
    have h1 : (t.reverse ++ [a]).take K = t.reverse := by
      rw [List.take_append_of_le_length (by simp; omega), List.take_of_length_le (by simp; omega)]
    refine ⟨?_, ?_, by rw [h1]; simpa using ht⟩
    · rw [List.getElem?_append_right (by simp; omega), show K - t.reverse.length = 0 by simp; omega]
      simp [h.1]
    · rw [h1]
      simpa using h.2
/-- The last entry in an entry's place. -/
def cutBook (bl : List Ent) (k M1 : Nat) (y : Ent) : List Ent := (bl.set k y).take M1
theorem cut_get (bl : List Ent) (k M1 : Nat) (hk : k < bl.length) (hM : bl.length = M1 + 1) (j : Nat) (hj : j < (cutBook bl k M1 (bl[M1]'(by omega))).length) : ∃ h : (if j = k then M1 else j) < bl.length, (cutBook bl k M1 (bl[M1]'(by omega)))[j] = bl[if j = k then M1 else j] := by
  have hj' : j < M1 := by
    simp only [cutBook, List.length_take, List.length_set] at hj
    omega
  refine ⟨by split <;> omega, ?_⟩
  simp only [cutBook, List.getElem_take, List.getElem_set]
  by_cases e : k = j
  · subst e
    simp
  · rw [if_neg e]
    congr 1
    rw [if_neg (fun e' => e e'.symm)]
theorem cut_len (bl : List Ent) (k M1 : Nat) (y : Ent) (hM : bl.length = M1 + 1) : (cutBook bl k M1 y).length = M1 := by
  simp only [cutBook, List.length_take, List.length_set]
  omega
theorem St.freed {w0 wr w6 : World} {X p b m N c c' c2 M1 : Nat} {B : Nat → Int} {L : List Nat} {q q' q2 : Option Addr} {bl : List Ent} {kl : List Int} (hI : St w0 wr X p b m N B L q c bl q' c' kl) (k : Nat) (hk : k < bl.length) (hM : bl.length = M1 + 1)
    (hR : Ram w6 p b m N (thr B bl[k].1 (adr L)) (bl[k].1 :: L)) (hrow : w6.ownsRow X 52 3 (.slice q M1 c) M1 (flat (cutBook bl k M1 (bl[M1]'(by omega))))) (hbak : w6.ownsRow X 22 1 (.slice q2 (kl ++ [pa bl[k]]).length c2) (kl ++ [pa bl[k]]).length ((kl ++ [pa bl[k]]).map (.int .u64))) (hB : Below w0.heap.size w0 w6) (hX : X ≤ w6.heap.size) :
    St w0 w6 X p b m N (thr B bl[k].1 (adr L)) (bl[k].1 :: L) q c (cutBook bl k M1 (bl[M1]'(by omega))) q2 c2 (kl ++ [pa bl[k]]) := by
  have hl := cut_len bl k M1 (bl[M1]'(by omega)) hM
  have hlen := hI.len
  refine ⟨hR, by rw [hl]; exact hrow, hbak, by rw [hl]; simp only [List.length_cons]; omega, ?_, ?_, ?_, hB, hX⟩
  · intro x hx
    obtain ⟨j, hj, rfl⟩ := List.getElem_of_mem hx
    obtain ⟨hj2, e⟩ := cut_get bl k M1 hk hM j hj
    have hne : (if j = k then M1 else j) ≠ k := by split <;> omega
    rw [e]
    have hk1 := hI.kp _ (List.getElem_mem hj2)
    have hd : bl[if j = k then M1 else j].1 ≠ bl[k].1 := fun h => hne (hI.inj _ _ hj2 hk h)
    refine ⟨hk1.1, hk1.2.1, fun h => ?_, hk1.2.2.2.congr (fun i hi => thr_out B _ _ _ (by omega))⟩
    rcases List.mem_cons.1 h with h | h
    · exact hd h
    · exact hk1.2.2.1 h
  · intro i j hi hj e
    obtain ⟨hi2, ei⟩ := cut_get bl k M1 hk hM i hi
    obtain ⟨hj2, ej⟩ := cut_get bl k M1 hk hM j hj
    rw [ei, ej] at e
    have := hI.inj _ _ hi2 hj2 e
    rw [hl] at hi hj
    split at this <;> split at this <;> omega
  · obtain ⟨rest, e⟩ := hI.stk
    exact ⟨rest, by simp only [List.map_cons, e, List.reverse_append, List.reverse_cons, List.reverse_nil, List.nil_append, List.cons_append]; rfl⟩
theorem own_cap {w : World} {X e n c s : Nat} {q : Option Addr} {xs : List Value} (h : w.ownsRow X e s (.slice q (n + 1) c) (n + 1) xs) : n + 1 ≤ c := by
  rcases h.2 with ⟨h0, h1⟩ | ⟨g', cap, cur, hv, hg, hh, hn, r⟩
  · omega
  · injection hv with e1 e2 e3
    omega
theorem own_frozen {w : World} {X e n c g s : Nat} {xs : List Value} (h : w.ownsRow X e s (.slice (some ⟨g, 0, .none⟩) n c) n xs) (j : Nat) : w.frozen? ⟨g, j, .none⟩ = false := by
  rcases h.2 with ⟨h0, _⟩ | ⟨g', cap, cur, hv, hg, hh, r⟩
  · cases h0
  · injection hv with e1 e2 e3
    injection e1 with e1
    injection e1 with e1
    subst e1
    simp [World.frozen?, hh]
/-- Behind the append to the list of what was given back. -/
theorem new_back {w0 w4 w5 : World} {X p b m N c c' g1 cap1 : Nat} {B : Nat → Int} {l : List Nat} {q q' : Option Addr} {n : Nat} {xs : List Value} {kl : List Int} {A : Int} {o : Obj} (hR : Ram w4 p b m N B l) (hrow : w4.ownsRow X 52 3 (.slice q n c) n xs) (hbak : w4.ownsRow X 22 1 (.slice q' kl.length c') kl.length (kl.map (.int .u64)))
    (hB : Below w0.heap.size w0 w4) (hX : X ≤ w4.heap.size) (hown : w5.ownsRow X 22 1 (.slice (some ⟨g1, 0, .none⟩) (kl.length + 1) cap1) (kl.length + 1) (kl.map (.int .u64) ++ [.int .u64 A]))
    (hg : (w4.alloc o).grownBy w5 (Value.ownBlock (.slice q' kl.length c'))) (h1 : p < X) (h2 : b < X) (h3 : m < X) (hwX : w0.heap.size ≤ X) :
    Hid (Ram w5 p b m N B l ∧ w5.ownsRow X 52 3 (.slice q n c) n xs ∧ w5.ownsRow X 22 1 (.slice (some ⟨g1, 0, .none⟩) (kl ++ [A]).length cap1) (kl ++ [A]).length ((kl ++ [A]).map (.int .u64)) ∧ Below w0.heap.size w0 w5 ∧ X ≤ w5.heap.size) := by
  have hr : ∀ k, Value.ownBlock (.slice q' kl.length c') = some k → X ≤ k := fun k hk => (hbak.lt k hk).1
  refine ⟨hR.mem' ((hR.mem.alloc o).grown hg hr h1 h2 h3), (hrow.alloc o).kept hg (kinds_apart hrow hbak (by decide)), ?_, ?_, ?_⟩
  · rw [show (kl ++ [A]).length = kl.length + 1 by simp, List.map_append]
    exact hown
  · exact (hB.alloc (Nat.le_trans hB.size (Nat.le_refl _)) o).grown hg (by simp; have := hB.size; omega) (fun k hk => Nat.le_trans hwX (hr k hk))
  · have := hg.size
    simp only [World.size_alloc] at this
    omega
theorem grown_setCell (w : World) (g j : Nat) (v : Value) : w.grownBy (w.setCell ⟨g, j, .none⟩ v) (some g) := by
  have h : Below 0 w (w.setCell ⟨g, j, .none⟩ v) := (Below.refl _ _).setCell (Nat.zero_le _) _
  exact ⟨h.os, h.tape, h.output, h.size, fun k hk hne => Below.heap_setCell _ _ _ _ (fun e => hne (by rw [e]))⟩
/-- A cell of the book's row is written: what stays. -/
theorem set_one {w0 w : World} {X p b m N c c' n g : Nat} {B : Nat → Int} {l : List Nat} {q' : Option Addr} {xs : List Value} {kl : List Int} (hR : Ram w p b m N B l) (hrow : w.ownsRow X 52 3 (.slice (some ⟨g, 0, .none⟩) n c) n xs) (hbak : w.ownsRow X 22 1 (.slice q' kl.length c') kl.length (kl.map (.int .u64)))
    (hB : Below w0.heap.size w0 w) (hX : X ≤ w.heap.size) (h1 : p < X) (h2 : b < X) (h3 : m < X) (hwX : w0.heap.size ≤ X) (j : Nat) (v : Value) (hj : j < n * 3) :
    Ram (w.setCell ⟨g, j, .none⟩ v) p b m N B l ∧ (w.setCell ⟨g, j, .none⟩ v).ownsRow X 52 3 (.slice (some ⟨g, 0, .none⟩) n c) n (xs.set j v) ∧ (w.setCell ⟨g, j, .none⟩ v).ownsRow X 22 1 (.slice q' kl.length c') kl.length (kl.map (.int .u64)) ∧ Below w0.heap.size w0 (w.setCell ⟨g, j, .none⟩ v) ∧ X ≤ (w.setCell ⟨g, j, .none⟩ v).heap.size := by
  have hg : X ≤ g := (hrow.lt g rfl).1
  have G := grown_setCell w g j v
  refine ⟨hR.mem' (hR.mem.grown G (fun k hk => by cases hk; exact hg) h1 h2 h3), owns_set hrow hj, hbak.kept G ?_, hB.setCell (p := ⟨g, j, .none⟩) (Nat.le_trans hwX hg) v, Nat.le_trans hX G.size⟩
  exact kinds_apart hbak hrow (by decide)
theorem set_book {w0 w : World} {X p b m N c c' M1 g : Nat} {B : Nat → Int} {l : List Nat} {q' : Option Addr} {bl : List Ent} {kl : List Int} (hR : Ram w p b m N B l) (hrow : w.ownsRow X 52 3 (.slice (some ⟨g, 0, .none⟩) (M1 + 1) c) (M1 + 1) (flat bl)) (hbak : w.ownsRow X 22 1 (.slice q' kl.length c') kl.length (kl.map (.int .u64)))
    (hB : Below w0.heap.size w0 w) (hX : X ≤ w.heap.size) (h1 : p < X) (h2 : b < X) (h3 : m < X) (hwX : w0.heap.size ≤ X) (k : Nat) (y : Ent) (hk : k < bl.length) (hM : bl.length = M1 + 1) (Y : Int) (hY : pa y = Y) :
    Hid (Ram (((w.setCell ⟨g, k * 3, .none⟩ (.int .u64 Y)).setCell ⟨g, k * 3 + 1, .none⟩ (.int .u64 y.2.1)).setCell ⟨g, k * 3 + 2, .none⟩ (.int .u64 y.2.2)) p b m N B l ∧ (((w.setCell ⟨g, k * 3, .none⟩ (.int .u64 Y)).setCell ⟨g, k * 3 + 1, .none⟩ (.int .u64 y.2.1)).setCell ⟨g, k * 3 + 2, .none⟩ (.int .u64 y.2.2)).ownsRow X 52 3 (.slice (some ⟨g, 0, .none⟩) M1 c) M1 (flat (cutBook bl k M1 y)) ∧
      (((w.setCell ⟨g, k * 3, .none⟩ (.int .u64 Y)).setCell ⟨g, k * 3 + 1, .none⟩ (.int .u64 y.2.1)).setCell ⟨g, k * 3 + 2, .none⟩ (.int .u64 y.2.2)).ownsRow X 22 1 (.slice q' kl.length c') kl.length (kl.map (.int .u64)) ∧ Below w0.heap.size w0 (((w.setCell ⟨g, k * 3, .none⟩ (.int .u64 Y)).setCell ⟨g, k * 3 + 1, .none⟩ (.int .u64 y.2.1)).setCell ⟨g, k * 3 + 2, .none⟩ (.int .u64 y.2.2)) ∧ X ≤ (((w.setCell ⟨g, k * 3, .none⟩ (.int .u64 Y)).setCell ⟨g, k * 3 + 1, .none⟩ (.int .u64 y.2.1)).setCell ⟨g, k * 3 + 2, .none⟩ (.int .u64 y.2.2)).heap.size) := by
  obtain ⟨a1, a2, a3, a4, a5⟩ := set_one hR hrow hbak hB hX h1 h2 h3 hwX (k * 3) (.int .u64 Y) (by omega)
  obtain ⟨b1, b2, b3, b4, b5⟩ := set_one a1 a2 a3 a4 a5 h1 h2 h3 hwX (k * 3 + 1) (.int .u64 y.2.1) (by omega)
  obtain ⟨c1, c2, c3, c4, c5⟩ := set_one b1 b2 b3 b4 b5 h1 h2 h3 hwX (k * 3 + 2) (.int .u64 y.2.2) (by omega)
  refine ⟨c1, ?_, c3, c4, c5⟩
  have e := flat_set bl k y hk
  rw [hY] at e
  rw [e] at c2
  have := owns_cut c2 (k := M1) (by omega)
  rw [flat_take] at this
  exact this
theorem set_fst (bl : List Ent) (k : Nat) (y : Ent) (hk : k < bl.length) (hy : y.1 = bl[k].1) (i : Nat) (hi : i < (bl.set k y).length) : (bl.set k y)[i].1 = (bl[i]'(by simpa using hi)).1 := by
  rw [List.getElem_set]
  split
  · rename_i e
    subst e
    exact hy
  · rfl
/-- The book says s of the entry; the memory may still hold what was there. -/
structure Pre (w0 w' : World) (X p b m N : Nat) (L : List Nat) (g c M1 : Nat) (bl : List Ent) (k : Nat) (x1 : Nat) (x2 s : Int) (q' : Option Addr) (c' : Nat) (kl : List Int) : Prop where
  ex : ∃ B' v', Ram w' p b m N B' L ∧ (∀ x ∈ bl, x.1 ≠ x1 → Full B' x) ∧ Full B' (x1, x2, v')
  row : w'.ownsRow X 52 3 (.slice (some ⟨g, 0, .none⟩) (M1 + 1) c) (M1 + 1) (flat (bl.set k (x1, x2, s)))
  bak : w'.ownsRow X 22 1 (.slice q' kl.length c') kl.length (kl.map (.int .u64))
  bel : Below w0.heap.size w0 w'
  xs : X ≤ w'.heap.size
theorem store_again {w0 wr w' : World} {X p b m N c c' M1 g k x1 : Nat} {B : Nat → Int} {L : List Nat} {q' : Option Addr} {bl : List Ent} {kl : List Int} {x2 x3 s A : Int} (hI : St w0 wr X p b m N B L (some ⟨g, 0, .none⟩) c bl q' c' kl) (hk : k < bl.length) (hM : bl.length = M1 + 1) (hx : bl[k] = (x1, x2, x3)) (hs : 0 ≤ s ∧ s < 18446744073709551616) (hA : 2147483648 + (x1 : Int) * 4096 = A)
    (h1 : p < X) (h2 : b < X) (h3 : m < X) (hp : w0.heap.size ≤ p) (hb : w0.heap.size ≤ b) (hm : w0.heap.size ≤ m) (h : Pre w0 w' X p b m N L g c M1 bl k x1 x2 s q' c' kl) :
    Calls Try.prog 11 #[.pointer (some ⟨p, 0, .none⟩), .int .u64 (A + x2), .int .i64 8, .int .u64 s] w' fun e w'' => e = .returned (.bool true) ∧ (w''.cell? ⟨g, k * 3, .none⟩ = some (.int .u64 A) ∧ w''.cell? ⟨g, k * 3 + 1, .none⟩ = some (.int .u64 x2) ∧ Pre w0 w'' X p b m N L g c M1 bl k x1 x2 s q' c' kl) ∧ ∃ B', St w0 w'' X p b m N B' L (some ⟨g, 0, .none⟩) c (bl.set k (x1, x2, s)) q' c' kl := by
  obtain ⟨B', v', hR, hF, hFk⟩ := h.ex
  have hkp := hI.kp bl[k] (List.getElem_mem hk)
  rw [hx] at hkp
  simp only at hkp
  have f0 := hFk.a0
  have f1 := hFk.a1
  have f8 := hFk.a8
  simp only at f0 f1 f8
  have cs := store_ok hR.mem (x1 * 4096 + x2.toNat) 8 (by omega) (by omega) (hdL_ok N L _ 8 (fun f hf1 hf2 => by
    have : f = x1 := by omega
    rw [this]
    exact ⟨hkp.2.1, hkp.2.2.1⟩)) s hs
  rw [show (2147483648 + ((x1 * 4096 + x2.toNat : Nat) : Int)) = A + x2 by omega, show ((8 : Nat) : Int) = 8 from rfl] at cs
  refine cs.mono ?_
  rintro e w2 ⟨rfl, M2, F2⟩
  have R2 : Ram w2 p b m N (over B' (x1 * 4096 + x2.toNat) (le s 8)) L := hR.laid M2 (fun j hj => by have : j ≠ x1 := fun e => hkp.2.2.1 (e ▸ hj); rw [le_len]; omega)
  have row2 := owns_fra h.row F2 h1 h2 h3
  have bak2 := owns_fra h.bak F2 h1 h2 h3
  have bel2 := h.bel.trans (F2.toBelow h.bel.size hp hb hm)
  have xs2 := Nat.le_trans h.xs F2.size
  have hF2 : ∀ x ∈ bl, x.1 ≠ x1 → Full (over B' (x1 * 4096 + x2.toNat) (le s 8)) x := fun x hx hne => (hF x hx hne).congr (fun k hk => over_other B' x1 x.1 x2.toNat s (by omega) hne k hk)
  have hFn : Full (over B' (x1 * 4096 + x2.toNat) (le s 8)) (x1, x2, s) := Full.lay x1 x2 s f0 f1 f8 hs (fun k hk hz => hFk.ze k hk hz)
  have fg := flat_get (bl.set k (x1, x2, s)) k (by simpa using hk)
  simp only [List.getElem_set_self, pa, hA] at fg
  refine ⟨rfl, ⟨own_cell row2 _ _ fg.1, own_cell row2 _ _ fg.2.1, ⟨_, s, R2, hF2, hFn⟩, row2, bak2, bel2, xs2⟩, _, R2, ?_, bak2, by rw [List.length_set]; exact hI.len, ?_, ?_, hI.stk, bel2, xs2⟩
  · rw [List.length_set, hM]
    exact row2
  · intro x hx'
    obtain ⟨j, hj, rfl⟩ := List.getElem_of_mem hx'
    have hj' : j < bl.length := by simpa using hj
    rw [List.getElem_set]
    split
    · exact ⟨hkp.1, hkp.2.1, hkp.2.2.1, hFn⟩
    · rename_i e
      have hkj := hI.kp bl[j] (List.getElem_mem hj')
      refine ⟨hkj.1, hkj.2.1, hkj.2.2.1, hF2 _ (List.getElem_mem hj') (fun e' => e ?_)⟩
      have := hI.inj k j hk hj' (by rw [hx]; exact e'.symm)
      exact this
  · intro i j hi hj e
    rw [set_fst bl k _ hk (by rw [hx]) i hi, set_fst bl k _ hk (by rw [hx]) j hj] at e
    exact hI.inj i j (by simpa using hi) (by simpa using hj) e
/-- The steps, as they came. -/
def HasS (w : World) (sp : Option Addr) (n : Nat) (S : Nat → Int) : Prop := n = 0 ∨ ∃ a : Addr, sp = some a ∧ a.block < w.heap.size ∧ ∀ i, i < n → w.cell? (a.add i) = some (.int .u64 (S i))
set_option maxHeartbeats 4000000 in
set_option maxRecDepth 100000 in
theorem holds_walk (fr : Int) (sp : Option Addr) (n c0 : Nat) (S : Nat → Int) (w : World) (hS : HasS w sp n S) (hSb : ∀ i, 0 ≤ S i ∧ S i < 18446744073709551616) (hn : n ≤ 9223372036854775807) :
    Calls Try.prog 5 #[.int .i64 fr, .slice sp n c0] w fun e w' => e = .returned (.bool true) ∧ Below w.heap.size w w' := by
  obtain ⟨N, hN⟩ : ∃ N : Nat, 1 + fr % 4294967296 % 40 = (N : Int) := ⟨(1 + fr % 4294967296 % 40).toNat, by omega⟩
  have hN1 : 1 ≤ N ∧ N ≤ 40 := by omega
  have cn := new_any N hN1.1 (by omega) w
  go_enter Try.func5, Try.ntmps5
  go_wp2_with fail
  refine cn.mono ?_
  rintro e w1 ⟨p, b, m, hp, hb, hm, rfl, R1, B1⟩
  clear cn hN
  obtain ⟨X, hX⟩ : ∃ X, w1.heap.size = X := ⟨_, rfl⟩
  have hpX : p < X := by rw [← hX]; exact R1.mem.plt
  have hbX : b < X := by rw [← hX]; exact R1.mem.blt
  have hmX : m < X := by rw [← hX]; exact R1.mem.mlt
  have HSt : Hid (St w w1 X p b m N (newB (N - 1)) (down (N - 1)) .none 0 [] .none 0 []) :=
    ⟨R1, World.ownsRow_nil _ _ _ _, World.ownsRow_nil _ _ _ _, by simp [down_len]; omega, (fun x hx => by cases hx), (fun i j hi => by cases hi), ⟨_, rfl⟩, B1, by omega⟩
  have hwX : w.heap.size ≤ X := by rw [← hX]; exact B1.size
  clear R1 B1 hX
  go_wp2
  go_loopw [8, 9, 10] (fun kb kk ki wr => Rel w X p b m N n kb kk ki wr) (fun _ _ ki _ => n - (intOf ki).toNat)
  case atStart => exact ⟨0, _, _, _, _, _, _, _, _, by omega, rfl, rfl, rfl, HSt.out⟩
  case round =>
    obtain ⟨i, B, L, q, c, bl, q', c', kl, hin, rfl, rfl, rfl, hSt⟩ := hrel
    have HI : Hid (St w wr X p b m N B L q c bl q' c' kl) := hSt
    by_cases hi : i < n ∧ i < 200
    · have i1 : (i : Int) < n := by omega
      have i2 : (i : Int) < 200 := by omega
      rcases hS with h0 | ⟨a, rfl, ha, hcS⟩
      · omega
      have hs := (hSt.bel.cell (p := a.add i) (by rw [add_block]; exact ha)).trans (hcS i hi.1)
      have hsb := hSb i
      generalize S i = s at hs hsb
      clear hSb hcS hSt HSt
      by_cases hev : s % 2 = 0
      · cases L with
        | nil =>
          have ca := alloc_none HI.out.ram
          have hlen := HI.out.len
          simp only [List.length_nil, Nat.add_zero] at hlen
          have ck := HI.out.kept hN1.2
          generalize hM : bl.length = M at *
          have i3 : ¬ ((M : Int) < (N : Int) - 1) := by omega
          clear hlen
          go_wp2_with (first | (go_at_call 10; refine ca.mono ?_; rintro e w2 ⟨rfl, rfl⟩) | (go_at_call 22; refine ck.mono ?_; rintro e w9 ⟨rfl, h9⟩))
          exact ⟨⟨i + 1, B, [], q, c, bl, q', c', kl, by omega, by rw [hM], rfl, by simp, h9⟩, by simp [intOf]; omega⟩
        | cons i0 l =>
          have ca := alloc_some i0 HI.out.ram
          have hlen := HI.out.len
          simp only [List.length_cons] at hlen
          generalize hM : bl.length = M at *
          have i3 : (M : Int) < (N : Int) - 1 := by omega
          clear hlen
          go_wp2_with fail
          refine ca.mono ?_
          rintro e w2 ⟨rfl, R2, F2⟩
          clear ca hs
          have hi0 := HI.out.ram.lt i0 (List.mem_cons_self ..)
          have hnd := List.nodup_cons.1 HI.out.ram.nd
          have row2 := owns_fra HI.out.row F2 hpX hbX hmX
          have bak2 := owns_fra HI.out.bak F2 hpX hbX hmX
          have cw := whose_none q c bl (2147483648 + (i0 : Int) * 4096) w2 (by omega) (hasM_of row2) (fun x hx e => by
            have := HI.out.kp x hx
            simp only [List.mem_cons, not_or] at this
            unfold pa at e
            omega)
          have cz := zero_ok R2.mem i0 hi0.2 (by rw [hdL_addr N l i0 hi0.2]; simp [hnd.1]) (fun k hk => zer_in B i0 k hk)
          rw [hM] at cw
          have HR2 : Hid (Ram w2 p b m N (zer B i0) l) := R2
          have Hrow2 : Hid (w2.ownsRow X 52 3 (.slice q bl.length c) bl.length (flat bl)) := row2
          have Hbak2 : Hid (w2.ownsRow X 22 1 (.slice q' kl.length c') kl.length (kl.map (.int .u64))) := bak2
          have HB2 : Hid (Below w.heap.size w w2) := HI.out.bel.trans (F2.toBelow HI.out.bel.size hp hb hm)
          have HX2 : Hid (X ≤ w2.heap.size) := Nat.le_trans HI.out.xs F2.size
          clear R2 F2 row2 bak2
          obtain ⟨A, hA⟩ : ∃ A, 2147483648 + (i0 : Int) * 4096 = A := ⟨_, rfl⟩
          have hA1 : A % 4096 = 0 := by omega
          have hA2 : ¬ (A ≤ 2147483648) := by omega
          have hA3 : ¬ (2147483648 + 4096 * (N : Int) ≤ A) := by omega
          have hA4 : 0 ≤ A ∧ A < 2147647488 := by omega
          rw [hA] at cw cz ⊢
          have HA : Hid (2147483648 + (i0 : Int) * 4096 = A) := hA
          clear hA
          go_wp2_with (first | (go_at_call 19; refine cw.mono ?_; rintro e w3 ⟨rfl, rfl⟩) | fail)
          refine cz.mono ?_
          rintro e w4 ⟨rfl, hb4⟩
          have HR4 : Hid (Ram w4 p b m N (zer B i0) l) := HR2.out.mem' (HR2.out.mem.below hb4)
          have Hrow4 : Hid (w4.ownsRow X 52 3 (.slice q bl.length c) bl.length (flat bl)) := owns_below Hrow2.out hb4
          have Hbak4 : Hid (w4.ownsRow X 22 1 (.slice q' kl.length c') kl.length (kl.map (.int .u64))) := owns_below Hbak2.out hb4
          have HB4 : Hid (Below w.heap.size w w4) := HB2.out.trans (hb4.mono HB2.out.size)
          have HX4 : Hid (X ≤ w4.heap.size) := Nat.le_trans HX2.out hb4.size
          clear cw cz hb4 HR2 Hrow2 Hbak2 HB2 HX2
          have hrowA : Hid (∀ o, (w4.alloc o).ownsRow X 52 3 (.slice q M c) M (flat bl)) := fun o => by
            have := Hrow4.out.alloc o
            rw [hM] at this
            exact this
          obtain ⟨j0, hj0, hjz, hj1, hj2⟩ := info52
          obtain ⟨T, hT⟩ : ∃ T, s / 256 % 512 * 8 = T := ⟨_, rfl⟩
          have hT1 : 0 ≤ T ∧ T < 4096 ∧ T % 8 = 0 := by omega
          have HT : Hid (s / 256 % 512 * 8 = T) := hT
          by_cases hkl : kl.length = 0
          · have hk0 : kl = [] := List.eq_nil_of_length_eq_zero hkl
            subst hk0
            simp only [List.length_nil]
            go_wp2_with (first | (at_builtin; refine wpList_append_own _ rfl _ _ 48 rfl X 52 j0 (.agg #[.int .u64 0, .int .u64 0, .int .u64 0]) 3 24 Try.underlying48 hj0 hjz hj1 hj2 rfl (by decide) _ _ (flat bl) rfl (hrowA.out _) ⟨w4.heap.size, 0, .none⟩ 1 1 [.int .u64 A, .int .u64 T, .int .u64 s] rfl rfl (cell3_new _ _ _ _ _) (one3 _ _ _) (by unfold maxLen; omega) (by omega) (by simp only [World.size_alloc]; exact Nat.le_succ_of_le HX4.out) ?_; intro v' w5 hown5 hgrow _; obtain ⟨g1, cap1, rfl⟩ := ownsRow_some hown5; have Hg5 := new_book HR4.out Hrow4.out Hbak4.out HB4.out HX4.out hM hown5 hgrow HA.out hpX hbX hmX hwX; have k5 := Hg5.out.2.2.2.2.2; clear hown5 hgrow) | fail)
            have cs := store_new HI.out Hg5.out.1 Hg5.out.2.1 Hg5.out.2.2.1 Hg5.out.2.2.2.1 Hg5.out.2.2.2.2.1 hT1 hsb HA.out hpX hbX hmX ⟨_, rfl⟩ hp hb hm
            clear k5
            refine cs.mono ?_
            rintro e w6 ⟨rfl, h6⟩
            have ck := h6.kept hN1.2
            simp only [List.length_append, List.length_cons, List.length_nil, hM] at ck
            clear cs h6
            go_wp2_with (go_at_call 22; refine ck.mono ?_; rintro e w9 ⟨rfl, h9⟩)
            exact ⟨⟨i + 1, _, _, _, _, _, _, _, [], by omega, by simp [hM], rfl, by simp, h9⟩, by simp [intOf]; omega⟩
          · obtain ⟨K, hK⟩ : ∃ K, kl.length = K + 1 := ⟨kl.length - 1, by omega⟩
            obtain ⟨rest, hrest⟩ := HI.out.stk
            obtain ⟨hp1, hp2, hp3⟩ := stk_pop hrest hK
            have hb4 := Hbak4.out
            rw [hK] at hb4
            obtain ⟨g2, c2, hq⟩ := ownsRow_some hb4
            injection hq with hq1 hq2 hq3
            subst hq1 hq3
            clear hq2
            have hKb : (K : Int) ≤ 40 := by
              have h1 := HI.out.kll
              have h2 := HI.out.len
              omega
            have hy : w4.cell? ⟨g2, K, .none⟩ = some (.int .u64 A) := own_cell hb4 K _ (by rw [List.getElem?_map, hp1, ← HA.out]; rfl)
            have Hbak5 : Hid (w4.ownsRow X 22 1 (.slice (some ⟨g2, 0, .none⟩) (kl.take K).length c') (kl.take K).length ((kl.take K).map (.int .u64))) := by
              have := owns_cut hb4 (k := K) (by omega)
              rw [Nat.mul_one, ← List.map_take] at this
              rw [hp3]
              exact this
            have Hp2 : Hid (l.map ad = (kl.take K).reverse ++ rest) := hp2
            have Hp3 : Hid ((kl.take K).length = K) := hp3
            have hkc : (K : Int) ≤ c' := by
              rcases hb4.2 with ⟨h0, _⟩ | ⟨_, _, _, hv, _, _, h9, _⟩
              · cases h0
              · injection hv with _ _ e3
                omega
            clear hb4 hp1 hp2 hp3 hrest hkl
            simp only [hK]
            go_wp2_with (first | (at_builtin; refine wpList_append_own _ rfl _ _ 48 rfl X 52 j0 (.agg #[.int .u64 0, .int .u64 0, .int .u64 0]) 3 24 Try.underlying48 hj0 hjz hj1 hj2 rfl (by decide) _ _ (flat bl) rfl (hrowA.out _) ⟨w4.heap.size, 0, .none⟩ 1 1 [.int .u64 A, .int .u64 T, .int .u64 s] rfl rfl (cell3_new _ _ _ _ _) (one3 _ _ _) (by unfold maxLen; omega) (by omega) (by simp only [World.size_alloc]; exact Nat.le_succ_of_le HX4.out) ?_; intro v' w5 hown5 hgrow _; obtain ⟨g1, cap1, rfl⟩ := ownsRow_some hown5; have Hg5 := new_book HR4.out Hrow4.out Hbak5.out HB4.out HX4.out hM hown5 hgrow HA.out hpX hbX hmX hwX; have k5 := Hg5.out.2.2.2.2.2; clear hown5 hgrow) | fail)
            have cs := store_new HI.out Hg5.out.1 Hg5.out.2.1 Hg5.out.2.2.1 Hg5.out.2.2.2.1 Hg5.out.2.2.2.2.1 hT1 hsb HA.out hpX hbX hmX ⟨_, Hp2.out⟩ hp hb hm
            clear k5 hy
            refine cs.mono ?_
            rintro e w6 ⟨rfl, h6⟩
            have ck := h6.kept hN1.2
            simp only [List.length_append, List.length_cons, List.length_nil, hM] at ck
            clear cs h6
            go_wp2_with (go_at_call 22; refine ck.mono ?_; rintro e w9 ⟨rfl, h9⟩)
            exact ⟨⟨i + 1, _, _, _, _, _, _, _, kl.take K, by omega, by simp [hM], by rw [Hp3.out], by simp, h9⟩, by simp [intOf]; omega⟩
      · have hev' : (s % 2 == 0) = false := by simpa using hev
        by_cases hM : bl.length = 0
        · have hb0 : bl = [] := List.eq_nil_of_length_eq_zero hM
          subst hb0
          have ck := HI.out.kept hN1.2
          simp only [List.length_nil] at ck ⊢
          go_wp2_with (go_at_call 22; refine ck.mono ?_; rintro e w9 ⟨rfl, h9⟩)
          exact ⟨⟨i + 1, B, L, q, c, [], q', c', kl, by omega, rfl, rfl, by simp, h9⟩, by simp [intOf]; omega⟩
        · obtain ⟨M1, hM1⟩ : ∃ M1, bl.length = M1 + 1 := ⟨bl.length - 1, by omega⟩
          have hM40 : (M1 : Int) ≤ 40 := by have := HI.out.len; omega
          have hrow0 := HI.out.row
          rw [hM1] at hrow0
          obtain ⟨g, cg, hq⟩ := ownsRow_some hrow0
          injection hq with hq1 hq2 hq3
          subst hq1 hq3
          clear hq2
          obtain ⟨k, hk⟩ : ∃ k : Nat, s / 256 % ((M1 : Int) + 1) = (k : Int) := ⟨(s / 256 % ((M1 : Int) + 1)).toNat, by have := Int.emod_nonneg (s / 256) (show (M1 : Int) + 1 ≠ 0 by omega); omega⟩
          have hkM : (k : Int) < (M1 : Int) + 1 := by rw [← hk]; exact Int.emod_lt_of_pos _ (by omega)
          have hkl : k < bl.length := by omega
          have hM1l : M1 < bl.length := by omega
          obtain ⟨⟨x1, x2, x3⟩, hx⟩ : ∃ x, bl[k] = x := ⟨_, rfl⟩
          obtain ⟨⟨y1, y2, y3⟩, hy⟩ : ∃ y, bl[M1] = y := ⟨_, rfl⟩
          have fk := flat_get bl k hkl
          have fM := flat_get bl M1 hM1l
          rw [hx] at fk
          rw [hy] at fM
          simp only [pa] at fk fM
          have hkp := HI.out.kp bl[k] (List.getElem_mem hkl)
          rw [hx] at hkp
          simp only at hkp
          have d0 := own_cell hrow0 _ _ fk.1
          have HM1 : Hid (bl.length = M1 + 1) := hM1
          have hMc : M1 ≤ c := by have := own_cap hrow0; omega
          simp only [hM1]
          clear hM1 hM
          by_cases h4 : s % 4 = 1
          · have h4' : (s % 4 == 1) = true := by simpa using h4
            have cf := free_held x1 HI.out.ram hkp.1 hkp.2.1 hkp.2.2.1
            obtain ⟨A, hA⟩ : ∃ A, 2147483648 + (x1 : Int) * 4096 = A := ⟨_, rfl⟩
            rw [hA] at cf d0
            have HA : Hid (2147483648 + (x1 : Int) * 4096 = A) := hA
            clear hA
            go_wp2_with fail
            refine cf.mono ?_
            rintro e w2 ⟨rfl, R2, F2⟩
            have row2 := owns_fra hrow0 F2 hpX hbX hmX
            have bak2 := owns_fra HI.out.bak F2 hpX hbX hmX
            have e0 := own_cell row2 _ _ fk.1
            have cf2 := free_free x1 R2 hkp.1 hkp.2.1 (List.mem_cons_self ..)
            rw [HA.out] at cf2 e0
            have HR2 : Hid (Ram w2 p b m N (thr B x1 (adr L)) (x1 :: L)) := R2
            have Hrow2 : Hid (w2.ownsRow X 52 3 (.slice (some ⟨g, 0, .none⟩) (M1 + 1) c) (M1 + 1) (flat bl)) := row2
            have Hbak2 : Hid (w2.ownsRow X 22 1 (.slice q' kl.length c') kl.length (kl.map (.int .u64))) := bak2
            have HB2 : Hid (Below w.heap.size w w2) := HI.out.bel.trans (F2.toBelow HI.out.bel.size hp hb hm)
            have HX2 : Hid (X ≤ w2.heap.size) := Nat.le_trans HI.out.xs F2.size
            have Hfk : Hid ((flat bl)[k * 3]? = some (Value.int .u64 (2147483648 + (x1 : Int) * 4096)) ∧ (flat bl)[k * 3 + 1]? = some (Value.int .u64 x2) ∧ (flat bl)[k * 3 + 2]? = some (Value.int .u64 x3)) := fk
            have HfM : Hid ((flat bl)[M1 * 3]? = some (Value.int .u64 (2147483648 + (y1 : Int) * 4096)) ∧ (flat bl)[M1 * 3 + 1]? = some (Value.int .u64 y2) ∧ (flat bl)[M1 * 3 + 2]? = some (Value.int .u64 y3)) := fM
            have Hrow0 : Hid (wr.ownsRow X 52 3 (.slice (some ⟨g, 0, .none⟩) (M1 + 1) c) (M1 + 1) (flat bl)) := hrow0
            clear R2 F2 row2 bak2 cf d0 hs fk fM hrow0
            go_wp2_with fail
            refine cf2.mono ?_
            rintro e w3 ⟨rfl, hb3⟩
            have HR3 : Hid (Ram w3 p b m N (thr B x1 (adr L)) (x1 :: L)) := HR2.out.mem' (HR2.out.mem.below hb3)
            have Hrow3 : Hid (w3.ownsRow X 52 3 (.slice (some ⟨g, 0, .none⟩) (M1 + 1) c) (M1 + 1) (flat bl)) := owns_below Hrow2.out hb3
            have Hbak3 : Hid (w3.ownsRow X 22 1 (.slice q' kl.length c') kl.length (kl.map (.int .u64))) := owns_below Hbak2.out hb3
            have HbakA : Hid (∀ o, (w3.alloc o).ownsRow X 22 1 (.slice q' kl.length c') kl.length (kl.map (.int .u64))) := fun o => Hbak3.out.alloc o
            have HB3 : Hid (Below w.heap.size w w3) := HB2.out.trans (hb3.mono HB2.out.size)
            have HX3 : Hid (X ≤ w3.heap.size) := Nat.le_trans HX2.out hb3.size
            have hkb : kl.length ≤ 40 := by
              have h1 := HI.out.kll
              have h2 := HI.out.len
              omega
            have e3 := own_cell Hrow3.out _ _ Hfk.out.1
            rw [HA.out] at e3
            obtain ⟨Y, hY⟩ : ∃ Y, 2147483648 + (y1 : Int) * 4096 = Y := ⟨_, rfl⟩
            have HY : Hid (2147483648 + (y1 : Int) * 4096 = Y) := hY
            clear hb3 cf2 e0 HR2 Hrow2 Hbak2 HB2 HX2 hY
            obtain ⟨j0, hj0, hjz, hj1, hj2⟩ := info22
            go_wp2_with (first | (at_builtin; refine wpList_append_own _ rfl _ _ 46 rfl X 22 j0 (.int .u64 0) 1 8 Try.underlying46 hj0 hjz hj1 hj2 rfl (by decide) _ _ (kl.map (.int .u64)) rfl (HbakA.out _) ⟨w3.heap.size, 0, .none⟩ 1 1 [.int .u64 A] rfl rfl (cell_one_new _ _ _) (by simp [Value.oneCell']) (by unfold maxLen; omega) (by omega) (by simp only [World.size_alloc]; exact Nat.le_succ_of_le HX3.out) ?_; intro v' w5 hown5 hgrow _; obtain ⟨g1, cap1, rfl⟩ := ownsRow_some hown5; have Hg5 := new_back HR3.out Hrow3.out Hbak3.out HB3.out HX3.out hown5 hgrow hpX hbX hmX hwX; have u0 := own_cell Hg5.out.2.1 _ _ HfM.out.1; have u1 := own_cell Hg5.out.2.1 _ _ HfM.out.2.1; have u2 := own_cell Hg5.out.2.1 _ _ HfM.out.2.2; rw [HY.out] at u0; have t0 := own_cell Hg5.out.2.1 _ _ Hfk.out.1; have t1 := own_cell Hg5.out.2.1 _ _ Hfk.out.2.1; have t2 := own_cell Hg5.out.2.1 _ _ Hfk.out.2.2; have z0 := own_frozen Hg5.out.2.1 (k * 3); have z1 := own_frozen Hg5.out.2.1 (k * 3 + 1); have z2 := own_frozen Hg5.out.2.1 (k * 3 + 2); clear hown5 hgrow) | fail)
            have HS6 := set_book Hg5.out.1 Hg5.out.2.1 Hg5.out.2.2.1 Hg5.out.2.2.2.1 Hg5.out.2.2.2.2 hpX hbX hmX hwX k (y1, y2, y3) hkl HM1.out Y HY.out
            clear u0 u1 u2 t0 t1 t2 z0 z1 z2 e3 Hg5
            have epa : pa bl[k] = A := by rw [hx]; exact HA.out
            have h6 := HI.out.freed k hkl HM1.out (w6 := ((w5.setCell ⟨g, k * 3, .none⟩ (.int .u64 Y)).setCell ⟨g, k * 3 + 1, .none⟩ (.int .u64 y2)).setCell ⟨g, k * 3 + 2, .none⟩ (.int .u64 y3)) (c2 := cap1) (q2 := some ⟨g1, 0, .none⟩) (by rw [hx]; exact HS6.out.1) (by rw [hy]; exact HS6.out.2.1) (by rw [epa]; exact HS6.out.2.2.1) HS6.out.2.2.2.1 HS6.out.2.2.2.2
            have ck := h6.kept hN1.2
            rw [cut_len bl k M1 _ HM1.out] at ck
            refine ck.mono ?_
            rintro e w9 ⟨rfl, h9⟩
            clear ck h6 HS6
            go_wp2
            exact ⟨⟨i + 1, _, _, _, _, _, _, _, _, by omega, by rw [cut_len bl k M1 _ HM1.out], by simp, by simp, h9⟩, by simp [intOf]; omega⟩
          · have h4' : (s % 4 == 1) = false := by simpa using h4
            have d1 := own_cell hrow0 _ _ fk.2.1
            have d2 := own_cell hrow0 _ _ fk.2.2
            have z2 := own_frozen hrow0 (k * 3 + 2)
            obtain ⟨A, hA⟩ : ∃ A, 2147483648 + (x1 : Int) * 4096 = A := ⟨_, rfl⟩
            rw [hA] at d0
            have hA0 : 0 ≤ A ∧ A < 4294967296 := by omega
            have e1 := hkp.2.2.2.a0
            have e2 := hkp.2.2.2.a1
            simp only at e1 e2
            have hwrap : IntKind.u64.wrap (A + x2) = A + x2 := by rw [IntKind.wrap_u64]; omega
            have HA : Hid (2147483648 + (x1 : Int) * 4096 = A) := hA
            have hP : Pre w (wr.setCell ⟨g, k * 3 + 2, .none⟩ (.int .u64 s)) X p b m N L g c M1 bl k x1 x2 s q' c' kl := by
              obtain ⟨a1, a2, a3, a4, a5⟩ := set_one HI.out.ram hrow0 HI.out.bak HI.out.bel HI.out.xs hpX hbX hmX hwX (k * 3 + 2) (.int .u64 s) (by omega)
              refine ⟨⟨B, x3, a1, fun x hx' _ => (HI.out.kp x hx').2.2.2, hkp.2.2.2⟩, ?_, a3, a4, a5⟩
              rw [← flat_set2 bl k (x1, x2, s) hkl (by rw [hx]) (by rw [hx])]
              exact a2
            have s1 : ∀ w', (w'.cell? ⟨g, k * 3, .none⟩ = some (.int .u64 A) ∧ w'.cell? ⟨g, k * 3 + 1, .none⟩ = some (.int .u64 x2) ∧ Pre w w' X p b m N L g c M1 bl k x1 x2 s q' c' kl) →
                Calls Try.prog 11 #[.pointer (some ⟨p, 0, .none⟩), .int .u64 (A + x2), .int .i64 8, .int .u64 s] w' fun e w'' => e = .returned (.bool true) ∧ (w''.cell? ⟨g, k * 3, .none⟩ = some (.int .u64 A) ∧ w''.cell? ⟨g, k * 3 + 1, .none⟩ = some (.int .u64 x2) ∧ Pre w w'' X p b m N L g c M1 bl k x1 x2 s q' c' kl) ∧ ∃ B', St w w'' X p b m N B' L (some ⟨g, 0, .none⟩) c (bl.set k (x1, x2, s)) q' c' kl := fun w' hw' =>
              store_again HI.out hkl HM1.out hx hsb hA hpX hbX hmX hp hb hm hw'.2.2
            have c0' : (wr.setCell ⟨g, k * 3 + 2, .none⟩ (.int .u64 s)).cell? ⟨g, k * 3, .none⟩ = some (.int .u64 A) := by rw [World.cell?_setCell_other _ _ _ _ (by simp)]; exact d0
            have c1' : (wr.setCell ⟨g, k * 3 + 2, .none⟩ (.int .u64 s)).cell? ⟨g, k * 3 + 1, .none⟩ = some (.int .u64 x2) := by rw [World.cell?_setCell_other _ _ _ _ (by simp)]; exact d1
            have hPd : Pre w (wr.setCell ⟨g, k * 3 + 2, .none⟩ (.int .u64 s)).drew X p b m N L g c M1 bl k x1 x2 s q' c' kl := ⟨by
              obtain ⟨B', v', r, rr⟩ := hP.ex
              exact ⟨B', v', r.mem' (r.mem.drewN 1), rr⟩, hP.row, hP.bak, hP.bel.drew, hP.xs⟩
            clear hA fk fM hkp hrow0 hP
            go_upto_region 35 with fail
            go_region_held3 (fun w' => w'.cell? ⟨g, k * 3, .none⟩ = some (.int .u64 A) ∧ w'.cell? ⟨g, k * 3 + 1, .none⟩ = some (.int .u64 x2) ∧ Pre w w' X p b m N L g c M1 bl k x1 x2 s q' c' kl) (first | assumption | exact ⟨c0', c1', hPd⟩) (first | (go_at_call 11; refine (s1 _ (by assumption)).mono ?_; rintro e w' ⟨rfl, hS, hFin⟩))
            rename_i hHeld
            obtain ⟨B', hF⟩ := hFin
            have ck := hF.kept hN1.2
            rw [List.length_set, HM1.out] at ck
            clear hS hHeld s1 hPd c0' c1' hF d0 d1 d2 z2
            go_wp2_with (go_at_call 22; refine ck.mono ?_; rintro e w9 ⟨rfl, h9⟩)
            exact ⟨⟨i + 1, _, _, _, _, _, _, _, _, by omega, by rw [List.length_set, HM1.out], rfl, by simp, h9⟩, by simp [intOf]; omega⟩
    · have HB9 : Hid (Below w.heap.size w wr) := hSt.bel
      clear hSt HI HSt
      by_cases hi1 : i < n
      · have i1 : (i : Int) < n := by omega
        have i2 : ¬ ((i : Int) < 200) := by omega
        go_wp2
        go_ret
        exact ⟨rfl, HB9.out⟩
      · have i1 : ¬ ((i : Int) < n) := by omega
        go_wp2
        go_ret
        exact ⟨rfl, HB9.out⟩
end Go.Proofs.Ytbpgdepgplmpnaa
