import Derived.Test.YtnghcadhilfgnaaQM
import Derived.Test.YtnghcadhilfgnaaAlloc
import Derived.Deep.RegionHeld3
namespace Go.Proofs.Ytnghcadhilfgnaa
open Go.RowKit
set_option linter.unusedVariables false
set_option linter.unusedSimpArgs false
/-- Only blocks of a kind may have turned. -/
structure Fx (S : Nat → Prop) (w w' : World) : Prop where
  os : w'.os = w.os
  tape : w'.tape = w.tape
  output : w'.output = w.output
  size : w.heap.size ≤ w'.heap.size
  block : ∀ k, k < w.heap.size → ¬ S k → w'.heap[k]? = w.heap[k]?
theorem Fx.refl (S : Nat → Prop) (w : World) : Fx S w w := ⟨rfl, rfl, rfl, Nat.le_refl _, fun _ _ _ => rfl⟩
theorem Fx.trans {S : Nat → Prop} {u v w : World} (h : Fx S u v) (k : Fx S v w) : Fx S u w :=
  ⟨k.os.trans h.os, k.tape.trans h.tape, k.output.trans h.output, Nat.le_trans h.size k.size, fun i hi a => (k.block i (Nat.lt_of_lt_of_le hi h.size) a).trans (h.block i hi a)⟩
theorem Fx.mono {S T : Nat → Prop} {u v : World} (h : Fx S u v) (k : ∀ i, i < u.heap.size → S i → T i) : Fx T u v := ⟨h.os, h.tape, h.output, h.size, fun i hi a => h.block i hi (fun s => a (k i hi s))⟩
theorem Fx.of_below {S : Nat → Prop} {w w' : World} (h : Below w.heap.size w w') : Fx S w w' := ⟨h.os, h.tape, h.output, h.size, fun k hk _ => h.block k hk⟩
theorem Fx.of_fra {p b m : Nat} {w w' : World} (h : Fra p b m w w') : Fx (fun k => k = p ∨ k = b ∨ k = m) w w' := ⟨h.os, h.tape, h.output, h.size, fun k hk a => h.block k hk (fun e => a (.inl e)) (fun e => a (.inr (.inl e))) (fun e => a (.inr (.inr e)))⟩
theorem Fx.setCell {S : Nat → Prop} {w w' : World} (h : Fx S w w') (a : Addr) (v : Value) (ha : S a.block) : Fx S w (w'.setCell a v) := by
  have g : Below 0 w' (w'.setCell a v) := (Below.refl _ _).setCell (Nat.zero_le _) _
  exact h.trans ⟨g.os, g.tape, g.output, g.size, fun k hk h1 => Below.heap_setCell _ _ _ _ (fun e => h1 (by rw [e]; exact ha))⟩
theorem Fx.setNew {S : Nat → Prop} {w w' : World} (h : Fx S w w') (a : Addr) (v : Value) (ha : w.heap.size ≤ a.block) : Fx S w (w'.setCell a v) := by
  have g : Below w.heap.size w' (w'.setCell a v) := (Below.refl _ _).setCell ha _
  exact ⟨g.os.trans h.os, g.tape.trans h.tape, g.output.trans h.output, Nat.le_trans h.size g.size, fun k hk h1 => (g.block k hk).trans (h.block k hk h1)⟩
theorem Fx.setCells {S : Nat → Prop} {w w' : World} (h : Fx S w w') (b : Nat) (hb : S b) : ∀ (o : Nat) (vs : List Value), Fx S w (w'.setCells b o vs) := by
  intro o vs
  induction vs generalizing o w' with
  | nil => exact h
  | cons v vs ih => exact ih (h.setCell ⟨b, o, .none⟩ v hb) (o + 1)
theorem over_bd {B : Nat → Int} (hB : ∀ i, 0 ≤ B i ∧ B i < 256) (o : Nat) (vs : List Int) (hv : ∀ v ∈ vs, 0 ≤ v ∧ v < 256) (i : Nat) : 0 ≤ over B o vs i ∧ over B o vs i < 256 := by
  unfold over
  split
  · rename_i hc
    have e1 : i - o < vs.length := by omega
    rw [List.getD_eq_getElem?_getD, List.getElem?_eq_getElem e1]
    exact hv _ (List.getElem_mem e1)
  · exact hB i
section
variable {W : World} {q hb lb N : Nat} {fb : Nat → Nat} {B : Nat → Int} {L : List Nat}
/-- What leaves the document's blocks alone leaves its memory alone. -/
theorem Qm.fx (h : Qm W q hb fb lb N B L) {S : Nat → Prop} {W' : World} (f : Fx S W W') (hs : ∀ b, (b = q ∨ b = hb ∨ (b = lb ∧ L ≠ []) ∨ ∃ i, i < N ∧ i ∉ L ∧ b = fb i) → ¬ S b) : Qm W' q hb fb lb N B L := h.keep f.size (fun b h1 h2 => f.block b h1 (hs b h2))
theorem Qm.store (h : Qm W q hb fb lb N B L) (i off : Nat) (vs : List Int) (hi : i < N) (hL : i ∉ L) (ho : off + vs.length ≤ 4096) (hv : ∀ v ∈ vs, 0 ≤ v ∧ v < 256) : Qm (W.setCells (fb i) off (vs.map (.int .u8))) q hb fb lb N (over B (i * 4096 + off) vs) L := by
  have hq := h.fq i hi hL
  have out : ∀ x : Addr, x.block ≠ fb i → (W.setCells (fb i) off (vs.map (.int .u8))).cell? x = W.cell? x := fun x hx => World.cell?_setCells_out _ _ _ _ _ (fun e => absurd e hx)
  have fr : ∀ x : Addr, (W.setCells (fb i) off (vs.map (.int .u8))).frozen? x = W.frozen? x := fun x => World.frozen?_setCells _ _ _ _ _
  obtain ⟨lv, h1, h2⟩ := h.c1
  refine ⟨(out _ (fun e => hq.1 e.symm)).trans h.c0, ⟨lv, (out _ (fun e => hq.1 e.symm)).trans h1, ?_⟩, (fr _).trans h.g1, fun j hj hl => (out _ (fun e => hq.2 e.symm)).trans (h.hf j hj hl), fun j hj hl => (out _ (fun e => hq.2 e.symm)).trans (h.hh j hj hl), fun j hj => (fr _).trans (h.gh j hj), ?_, fun j hj hl k hk => (fr _).trans (h.gb j hj hl k hk), h.inj, h.qh, h.lq, h.nd, h.rg, h.n1, h.n2, over_bd h.bb _ _ hv⟩
  · rcases h2 with h2 | ⟨lo, c, e, hc, hl⟩
    · exact .inl h2
    · exact .inr ⟨lo, c, e, hc, fun j v hj => (out _ (fun e => h.lq.2.2 i hi hL e.symm)).trans (hl j v hj)⟩
  · intro j hj hl k hk
    by_cases e : j = i
    · subst e
      unfold over
      by_cases hin : off ≤ k ∧ k < off + vs.length
      · rw [if_pos (by omega)]
        have e1 : k - off < vs.length := by omega
        have := World.cell?_setCells_in (fb j) (vs.map (.int .u8)) off W (fun y hy => by rw [h.cb j hj hl (off + y) (by simp at hy; omega)]; rfl) (k - off) (by simp; omega)
        rw [show off + (k - off) = k by omega] at this
        rw [this, show j * 4096 + k - (j * 4096 + off) = k - off by omega]
        simp [List.getElem?_eq_getElem e1]
      · rw [if_neg (by omega), World.cell?_setCells_out _ _ _ _ ⟨fb j, k, .none⟩ (fun _ _ => by simp; omega)]
        exact h.cb j hj hl k hk
    · rw [out _ (fun x => e (h.inj j i hj hi hl hL x)), h.cb j hj hl k hk]
      unfold over
      rw [if_neg (by omega)]
theorem allocQ_none (h : Qm W q hb fb lb N B []) : Calls Try.prog 16 #[.pointer (some ⟨q, 0, .none⟩)] W fun e w' => e = .returned (.tuple #[.int .u64 0, .bool false]) ∧ w' = W := by
  obtain ⟨lv, c1, hl⟩ := h.c1
  clear h
  rcases hl with ⟨_, _, rfl, _⟩ | ⟨lo, c, rfl, _, _⟩
  all_goals
    go_enter Try.func16, Try.ntmps16
    go_wp2
    go_ret2
    exact ⟨rfl, rfl⟩
theorem make4096 (w : World) : (Instr.makeSlice 27 (.int .i64 4096) (.int .i64 4096)).run Try.prog w = .ok (.slice (some ⟨w.heap.size, 0, .none⟩) 4096 4096) (w.alloc (.cells (Zs 4096) 5)) := make_bytes 4096 (by omega) w
theorem zer_bd {B : Nat → Int} (hB : ∀ i, 0 ≤ B i ∧ B i < 256) (i : Nat) : ∀ j, 0 ≤ zer B i j ∧ zer B i j < 256 := over_bd hB _ _ zeros_bd
theorem Qm.alloc (i : Nat) (l : List Nat) (h : Qm W q hb fb lb N B (i :: l)) (lo' c' : Nat) (hc : l.length ≤ c') (hl : ∀ (j v : Nat), l[j]? = some v → W.cell? ⟨lb, lo' + j, .none⟩ = some (.int .i64 v)) {V : World} (hV : V = (W.setCell ⟨q, 1, .none⟩ (.slice (some ⟨lb, lo', .none⟩) l.length c')).drew) :
    Qm ((V.alloc (.cells (Zs 4096) 5)).setCell ⟨hb, i, .none⟩ (.slice (some ⟨V.heap.size, 0, .none⟩) 4096 4096)) q hb (fun j => if j = i then V.heap.size else fb j) lb N (zer B i) l ∧ Fx (fun k => k = q ∨ k = hb) W ((V.alloc (.cells (Zs 4096) 5)).setCell ⟨hb, i, .none⟩ (.slice (some ⟨V.heap.size, 0, .none⟩) 4096 4096)) ∧ W.heap.size ≤ V.heap.size := by
  have hi := h.rg i (List.mem_cons_self ..)
  have hnd : i ∉ l := (List.nodup_cons.1 h.nd).1
  have F1 : Fx (fun k => k = q ∨ k = hb) W V := by
    rw [hV]
    have := (Fx.refl (fun k => k = q ∨ k = hb) W).setCell ⟨q, 1, .none⟩ (.slice (some ⟨lb, lo', .none⟩) l.length c') (.inl rfl)
    exact this.trans ⟨rfl, rfl, rfl, Nat.le_refl _, fun _ _ _ => rfl⟩
  have hs : V.heap.size = W.heap.size := by
    rw [hV]
    show (W.setCell _ _).heap.size = _
    simp
  have F2 : Fx (fun k => k = q ∨ k = hb) W ((V.alloc (.cells (Zs 4096) 5)).setCell ⟨hb, i, .none⟩ (.slice (some ⟨V.heap.size, 0, .none⟩) 4096 4096)) := ((F1.trans (Fx.of_below ((Below.refl _ _).alloc (Nat.le_refl _) _)))).setCell _ _ (.inr rfl)
  -- cells
  have vq : ∀ o, o ≠ 1 → V.cell? ⟨q, o, .none⟩ = W.cell? ⟨q, o, .none⟩ := fun o ho => by rw [hV]; exact World.cell?_setCell_other _ _ _ _ (by simp [fun x => ho (Eq.symm x)])
  have vq1 : V.cell? ⟨q, 1, .none⟩ = some (.slice (some ⟨lb, lo', .none⟩) l.length c') := by
    rw [hV]
    obtain ⟨lv, h1, _⟩ := h.c1
    exact World.cell?_setCell_same' _ _ _ (by rw [h1]; rfl)
  have vo : ∀ x : Addr, x.block ≠ q → V.cell? x = W.cell? x := fun x hx => by
    rw [hV]
    exact World.cell?_setCell_other _ _ _ _ (fun e => hx (by rw [← e]))
  have vf : ∀ x : Addr, V.frozen? x = W.frozen? x := fun x => by rw [hV]; exact World.frozen?_setCell ..
  have ao : ∀ x : Addr, x.block < V.heap.size → (V.alloc (.cells (Zs 4096) 5)).cell? x = V.cell? x := fun x hx => Below.cell ((Below.refl V.heap.size V).alloc (Nat.le_refl _) _) hx
  have af : ∀ x : Addr, x.block < V.heap.size → (V.alloc (.cells (Zs 4096) 5)).frozen? x = V.frozen? x := fun x hx => Below.frozen ((Below.refl V.heap.size V).alloc (Nat.le_refl _) _) hx
  have so : ∀ x : Addr, x ≠ ⟨hb, i, .none⟩ → ((V.alloc (.cells (Zs 4096) 5)).setCell ⟨hb, i, .none⟩ (.slice (some ⟨V.heap.size, 0, .none⟩) 4096 4096)).cell? x = (V.alloc (.cells (Zs 4096) 5)).cell? x := fun x hx => World.cell?_setCell_other _ _ _ _ (fun e => hx e.symm)
  have sf : ∀ x : Addr, ((V.alloc (.cells (Zs 4096) 5)).setCell ⟨hb, i, .none⟩ (.slice (some ⟨V.heap.size, 0, .none⟩) 4096 4096)).frozen? x = (V.alloc (.cells (Zs 4096) 5)).frozen? x := fun x => World.frozen?_setCell ..
  have hq := h.qlt
  have hhl := h.hlt
  have hll : lb < W.heap.size := by
    obtain ⟨lv, _, h2⟩ := h.c1
    rcases h2 with ⟨_, _, _, h2⟩ | ⟨lo, c, _, _, h2⟩
    · cases h2
    · exact lt_of_cell (h2 0 i rfl)
  have qh := h.qh
  refine ⟨⟨?_, ⟨_, ?_, .inr ⟨lo', c', rfl, hc, ?_⟩⟩, ?_, ?_, ?_, ?_, ?_, ?_, ?_, qh, ⟨h.lq.1, h.lq.2.1, ?_⟩, (List.nodup_cons.1 h.nd).2, fun j hj => h.rg j (List.mem_cons_of_mem _ hj), h.n1, h.n2, zer_bd h.bb i⟩, F2, by omega⟩
  · rw [so _ (by simp; try (intro e; exact absurd e qh)), ao _ (by show q < _; omega), vq 0 (by omega)]; exact h.c0
  · rw [so _ (by simp; try (intro e; exact absurd e qh)), ao _ (by show q < _; omega)]; exact vq1
  · intro j v hj
    rw [so _ (by simp; try (intro e; exact absurd e h.lq.2.1)), ao _ (by show lb < _; omega), vo _ h.lq.1]
    exact hl j v hj
  · rw [sf, af _ (by show q < _; omega), vf]; exact h.g1
  · intro j hj hjl
    have e : j ≠ i := fun e => hnd (by rw [← e]; exact hjl)
    rw [so _ (by simp [e]), ao _ (by show hb < _; omega), vo _ (fun e => qh e.symm)]
    exact h.hf j hj (List.mem_cons_of_mem _ hjl)
  · intro j hj hjl
    by_cases e : j = i
    · subst e
      rw [if_pos rfl]
      exact World.cell?_setCell_same' _ _ _ (by rw [ao _ (by show hb < _; omega), vo _ (fun e => qh e.symm), h.hf j hj (List.mem_cons_self ..)]; rfl)
    · rw [if_neg e, so _ (by simp [e]), ao _ (by show hb < _; omega), vo _ (fun e => qh e.symm)]
      exact h.hh j hj (by simp [e, hjl])
  · intro j hj
    rw [sf, af _ (by show hb < _; omega), vf]; exact h.gh j hj
  · intro j hj hjl k hk
    by_cases e : j = i
    · subst e
      rw [if_pos rfl, so _ (by simp; try omega), World.cell?_alloc_at _ _ _ _ rfl, Zs_at 4096 k hk, zer_in B j k hk]
    · have hjc : j ∉ i :: l := by simp [e, hjl]
      have hfl := h.flt j hj hjc
      rw [if_neg e, so _ (by simp; try (intro x; exact absurd x (h.fq j hj hjc).2)), ao _ (by show fb j < _; omega), vo _ (h.fq j hj hjc).1, h.cb j hj hjc k hk, zer_out B i (j * 4096 + k) (by omega)]
  · intro j hj hjl k hk
    by_cases e : j = i
    · subst e
      rw [if_pos rfl, sf]
      exact World.frozen?_alloc_new _ _ _ _
    · have hjc : j ∉ i :: l := by simp [e, hjl]
      have hfl := h.flt j hj hjc
      rw [if_neg e, sf, af _ (by show fb j < _; omega), vf]
      exact h.gb j hj hjc k hk
  · intro a b ha hb' hal hbl e
    by_cases ea : a = i
    · by_cases eb : b = i
      · omega
      · have hbc : b ∉ i :: l := by simp [eb, hbl]
        rw [if_pos ea, if_neg eb] at e
        have := h.flt b hb' hbc
        omega
    · have hac : a ∉ i :: l := by simp [ea, hal]
      by_cases eb : b = i
      · rw [if_neg ea, if_pos eb] at e
        have := h.flt a ha hac
        omega
      · have hbc : b ∉ i :: l := by simp [eb, hbl]
        rw [if_neg ea, if_neg eb] at e
        exact h.inj a b ha hb' hac hbc e
  · intro j hj hjl
    by_cases e : j = i
    · rw [if_pos e]; omega
    · rw [if_neg e]
      exact h.lq.2.2 j hj (by simp [e, hjl])
set_option maxHeartbeats 1000000 in
theorem allocQ_some (i : Nat) (l : List Nat) (h : Qm W q hb fb lb N B (i :: l)) : Calls Try.prog 16 #[.pointer (some ⟨q, 0, .none⟩)] W fun e w' => e = .returned (.tuple #[.int .u64 (2147483648 + i * 4096), .bool true]) ∧ ∃ g, W.heap.size ≤ g ∧ Qm w' q hb (fun j => if j = i then g else fb j) lb N (zer B i) l ∧ Fx (fun k => k = q ∨ k = hb) W w' := by
  obtain ⟨lv, c1, hl⟩ := h.c1
  have HQ : Hid (Qm W q hb fb lb N B (i :: l)) := h
  have c0 := h.c0
  have g1 := h.g1
  have hi := h.rg i (List.mem_cons_self ..)
  have gi := h.gh i hi.2
  have hfi := h.hf i hi.2 (List.mem_cons_self ..)
  have n2 := h.n2
  have qh := h.qh
  rcases hl with ⟨_, _, _, hn⟩ | ⟨lo, c, rfl, hc, hl⟩
  · cases hn
  have HL : Hid (∀ (j v : Nat), (i :: l)[j]? = some v → W.cell? ⟨lb, lo + j, .none⟩ = some (.int .i64 v)) := hl
  have l0 := hl 0 i rfl
  simp only [List.length_cons] at hc c1
  simp only [Nat.add_zero] at l0
  clear h hl
  have y4 : (i : Int) < N := by omega
  have hm := make4096
  obtain ⟨lo', elo, hl'⟩ : ∃ lo', (if c = 1 then some (⟨lb, lo, .none⟩ : Addr) else some ⟨lb, lo + 1, .none⟩) = some ⟨lb, lo', .none⟩ ∧ ∀ (j v : Nat), l[j]? = some v → W.cell? ⟨lb, lo' + j, .none⟩ = some (.int .i64 v) := by
    by_cases e : c = 1
    · refine ⟨lo, by rw [if_pos e], fun j v hj => ?_⟩
      have : l = [] := List.eq_nil_of_length_eq_zero (by omega)
      rw [this] at hj
      simp at hj
    · refine ⟨lo + 1, by rw [if_neg e], fun j v hj => ?_⟩
      have := HL.out (j + 1) v hj
      rw [show lo + (j + 1) = lo + 1 + j by omega] at this
      exact this
  have HLO : Hid ((if c = 1 then some (⟨lb, lo, .none⟩ : Addr) else some ⟨lb, lo + 1, .none⟩) = some ⟨lb, lo', .none⟩) := elo
  have HL' : Hid (∀ (j v : Nat), l[j]? = some v → W.cell? ⟨lb, lo' + j, .none⟩ = some (.int .i64 v)) := hl'
  clear elo hl'
  go_enter Try.func16, Try.ntmps16
  go_upto_region 5 with fail
  simp only [HLO.out]
  have HV : Hid (_ = (W.setCell ⟨q, 1, .none⟩ (.slice (some ⟨lb, lo', .none⟩) l.length (c - 1))).drew) := rfl
  have k0 : (W.setCell ⟨q, 1, .none⟩ (.slice (some ⟨lb, lo', .none⟩) l.length (c - 1))).drew.cell? ⟨q, 0, .none⟩ = some (.slice (some ⟨hb, 0, .none⟩) N N) := (World.cell?_setCell_other _ _ _ _ (by simp)).trans c0
  have k1 : (W.setCell ⟨q, 1, .none⟩ (.slice (some ⟨lb, lo', .none⟩) l.length (c - 1))).drew.cell? ⟨hb, i, .none⟩ = some (.slice .none 0 0) := (World.cell?_setCell_other _ _ _ _ (by simp [qh])).trans hfi
  have k2 : (W.setCell ⟨q, 1, .none⟩ (.slice (some ⟨lb, lo', .none⟩) l.length (c - 1))).drew.frozen? ⟨hb, i, .none⟩ = false := (World.frozen?_setCell ..).trans gi
  have hle := HQ.out.alloc i l lo' (c - 1) (by omega) HL'.out HV.out
  refine wp_region_held_drew (S := (fun V => V.cell? ⟨q, 0, .none⟩ = some (.slice (some ⟨hb, 0, .none⟩) N N))) (by kernel_rfl) k0 (fun hHeld => ?_)
  generalize (W.setCell ⟨q, 1, .none⟩ (.slice (some ⟨lb, lo', .none⟩) l.length (c - 1))).drew = V at *
  refine wpAnyH_take (i := 0) (v := (.pointer (some ⟨q, 0, .none⟩))) rfl (by kernel_rfl) (by kernel_rfl) (by kernel_rfl) (fun _ _ _ h => h) (Or.inl ⟨by rfl, fun ww hSw => by (try dsimp only at hSw); go_simp⟩) (by assumption) ?_
  simp only [Act.put, List.setIfInBounds_toArray, List.set_cons_zero, List.set_cons_succ, List.getElem_toArray, List.getElem_cons_succ, List.getElem_cons_zero]
  refine wpAnyH_take (i := 1) (v := (.pointer (some ⟨q, 0, .none⟩))) rfl (by kernel_rfl) (by kernel_rfl) (by kernel_rfl) (fun _ _ _ h => h) (Or.inl ⟨by rfl, fun ww hSw => by (try dsimp only at hSw); go_simp⟩) (by assumption) ?_
  simp only [Act.put, List.setIfInBounds_toArray, List.set_cons_zero, List.set_cons_succ, List.getElem_toArray, List.getElem_cons_succ, List.getElem_cons_zero]
  refine wpAnyH_take (i := 2) (v := (.pointer (some ⟨q, 0, .none⟩))) rfl (by kernel_rfl) (by kernel_rfl) (by kernel_rfl) (fun _ _ _ h => h) (Or.inl ⟨by rfl, fun ww hSw => by (try dsimp only at hSw); go_simp⟩) (by assumption) ?_
  simp only [Act.put, List.setIfInBounds_toArray, List.set_cons_zero, List.set_cons_succ, List.getElem_toArray, List.getElem_cons_succ, List.getElem_cons_zero]
  refine wpAnyH_take (i := 3) (v := (.slice (some ⟨hb, 0, .none⟩) N N)) rfl (by kernel_rfl) (by kernel_rfl) (by kernel_rfl) (fun _ _ _ h => h) (Or.inl ⟨by rfl, fun ww hSw => by (try dsimp only at hSw); go_simp⟩) (by assumption) ?_
  simp only [Act.put, List.setIfInBounds_toArray, List.set_cons_zero, List.set_cons_succ, List.getElem_toArray, List.getElem_cons_succ, List.getElem_cons_zero]
  refine wpAnyH_take (i := 4) (v := (.int .i64 i)) rfl (by kernel_rfl) (by kernel_rfl) (by kernel_rfl) (fun _ _ _ h => h) (Or.inl ⟨by rfl, fun ww hSw => by (try dsimp only at hSw); go_simp⟩) (by assumption) ?_
  simp only [Act.put, List.setIfInBounds_toArray, List.set_cons_zero, List.set_cons_succ, List.getElem_toArray, List.getElem_cons_succ, List.getElem_cons_zero]
  refine wpAnyH_ready (rs := [5]) (by kernel_rfl) (by simp) ?_
  refine AllReadyH.cons rfl (fun K hK => ?_) AllReadyH.nil
  go_simp
  have k3 := (Below.cell ((Below.refl V.heap.size V).alloc (Nat.le_refl _) (.cells (Zs 4096) 5)) (lt_of_cell k0)).trans k0
  have k4 := (Below.cell ((Below.refl V.heap.size V).alloc (Nat.le_refl _) (.cells (Zs 4096) 5)) (lt_of_cell k1)).trans k1
  have k5 := (Below.frozen ((Below.refl V.heap.size V).alloc (Nat.le_refl _) (.cells (Zs 4096) 5)) (lt_of_cell k1)).trans k2
  refine hK.out _ _ k3 (fun hHeld => ?_)
  clear hK K
  try simp only [Act.put, List.setIfInBounds_toArray, List.set_cons_zero, List.set_cons_succ, List.getElem_toArray, List.getElem_cons_succ, List.getElem_cons_zero]
  have k6 : ((V.alloc (.cells (Zs 4096) 5)).setCell ⟨hb, i, .none⟩ (.slice (some ⟨V.heap.size, 0, .none⟩) 4096 4096)).cell? ⟨q, 0, .none⟩ = some (.slice (some ⟨hb, 0, .none⟩) N N) := (World.cell?_setCell_other _ _ _ _ (by simp; try (intro e; exact absurd e.symm qh))).trans k3
  generalize V.alloc (.cells (Zs 4096) 5) = V5 at *
  refine wpAnyH_take (i := 6) (v := (.pointer (some ⟨hb, i, .none⟩))) rfl (by kernel_rfl) (by kernel_rfl) (by kernel_rfl) (fun _ _ _ h => h) (Or.inl ⟨by rfl, fun ww hSw => by (try dsimp only at hSw); go_simp⟩) (by assumption) ?_
  simp only [Act.put, List.setIfInBounds_toArray, List.set_cons_zero, List.set_cons_succ, List.getElem_toArray, List.getElem_cons_succ, List.getElem_cons_zero]
  refine wpAnyH_ready (rs := [7]) (by kernel_rfl) (by simp) ?_
  refine AllReadyH.cons rfl (fun K hK => ?_) AllReadyH.nil
  go_simp
  refine hK.out _ _ k6 (fun hHeld => ?_)
  clear hK K
  try simp only [Act.put, List.setIfInBounds_toArray, List.set_cons_zero, List.set_cons_succ, List.getElem_toArray, List.getElem_cons_succ, List.getElem_cons_zero]
  refine wpAnyH_done (by kernel_rfl) ?_ _
  have ca : ∀ w : World, Calls Try.prog 37 #[.int .i64 i] w fun e w' => e = .returned (.int .u64 (2147483648 + i * 4096)) ∧ w' = w := fun w => by
    clear hle k0 k1 k2 k3 k4 k5 k6 hm HV HQ
    go_enter Try.func37, Try.ntmps37
    go_wp2
    go_ret
    exact ⟨by simp [Int.mul_comm], rfl⟩
  go_wp2_with (go_at_call 37; refine (ca _).mono ?_; rintro e w1 ⟨rfl, rfl⟩)
  go_ret2
  exact ⟨rfl, _, hle.2.2, hle.1, hle.2.1⟩
end
end Go.Proofs.Ytnghcadhilfgnaa
