import Derived.Test.YtblpdnchphhcaaaDoorCx
import Derived.Deep.RegionLaw
namespace Go.Proofs.YtblpdnchphhcaaaDoor
open Go.RowKit
set_option linter.unusedVariables false
set_option linter.unusedSimpArgs false
theorem upt_no4 : ∀ (n : Nat) (rs : List Int) (i : Nat) (x : Int), i < upt n rs → rs[i]? = some x → x ≠ 4
  | 0, _, _, _, h, _ => by simp [upt] at h
  | n + 1, [], _, _, h, _ => by simp [upt] at h
  | n + 1, y :: rs, i, x, h, hx => by
    simp only [upt] at h
    split at h
    · omega
    · rename_i h4
      match i, hx with
      | 0, hx => simp at hx; omega
      | i + 1, hx =>
        split at h
        · omega
        · exact upt_no4 n rs i x (by omega) (by simpa using hx)
theorem upt_no10 : ∀ (n : Nat) (rs : List Int) (i : Nat) (x : Int), i + 1 < upt n rs → rs[i]? = some x → x ≠ 10
  | 0, _, _, _, h, _ => by simp [upt] at h
  | n + 1, [], _, _, h, _ => by simp [upt] at h
  | n + 1, y :: rs, i, x, h, hx => by
    simp only [upt] at h
    split at h
    · omega
    · split at h
      · omega
      · rename_i h4 h10
        match i, hx with
        | 0, hx => simp at hx; omega
        | i + 1, hx => exact upt_no10 n rs i x (by omega) (by simpa using hx)
theorem upt_whole : ∀ (n : Nat) (rs : List Int), upt n rs = n ∨ upt n rs = rs.length ∨ (0 < upt n rs ∧ rs[upt n rs - 1]? = some 10) ∨ rs[upt n rs]? = some 4
  | 0, _ => .inl rfl
  | n + 1, [] => .inr (.inl rfl)
  | n + 1, y :: rs => by
    simp only [upt]
    split
    · rename_i h4; subst h4; exact .inr (.inr (.inr rfl))
    · split
      · rename_i h4 h10; subst h10; exact .inr (.inr (.inl ⟨by decide, rfl⟩))
      · rcases upt_whole n rs with h | h | ⟨h, h'⟩ | h
        · exact .inl (by omega)
        · exact .inr (.inl (by simp; omega))
        · refine .inr (.inr (.inl ⟨by omega, ?_⟩))
          have e : upt n rs + 1 - 1 = (upt n rs - 1) + 1 := by omega
          rw [e, List.getElem?_cons_succ]
          exact h'
        · exact .inr (.inr (.inr (by rw [List.getElem?_cons_succ]; exact h)))

theorem step_app {w : World} {ops : Array Oper} {o : Oper} {a : Act} {K : Act → World → Prop} {Q : Exit → Act → World → Prop} {E : Prop} (hgd : o.guard = none) (s x : Operand)
    (ho : o.op = .call { callee := .builtin .append, args := #[s, x], argTypes := #[22, 22] }) (base : Nat) (v : Value) (n : Nat) (xs : List Int) (hs : a.eval s = v) (p : Option Addr) (k c : Nat) (ys : List Int) (hx : a.eval x = .slice p k c)
    (hown : w.ownsRow base 5 1 v n (by8 xs)) (hB : Byt w p k c ys) (hbytes : n + k ≤ 140737488355328) (hbase : base ≤ w.heap.size)
    (h : ∀ v' w', w'.ownsRow base 5 1 v' (n + k) (by8 (xs ++ ys)) → w.grownBy w' v.ownBlock → (∀ g, v'.ownBlock = some g → v.ownBlock = some g ∨ w.heap.size ≤ g) → K (a.put o.dst v') w') : if Region.wanted o (yielded ops a.tmps) = true then Oper.wp Tryd.prog o a w K Q else E := by
  have hw : Region.wanted o (yielded ops a.tmps) = true := by simp [Region.wanted, hgd]
  rw [if_pos hw]
  obtain ⟨v', w', hr, h2, h3, h4⟩ := app_byt hown hB hbytes hbase o.type
  unfold Oper.wp
  simp [execOp, ho, resolve, invoke, builtin, hs, hx, hr, Result.andThen]
  exact h v' w' h2 h3 h4
/-- The law's book. -/
structure Bok (w : World) (d X : Nat) (vD vL : Value) (dn ln : List Int) (g : Nat) : Prop where
  c0 : w.cell? ⟨d, 0, .none⟩ = some vD
  c1 : w.cell? ⟨d, 1, .none⟩ = some (.int .i64 g)
  c2 : w.cell? ⟨d, 2, .none⟩ = some vL
  fz : ∀ i, w.frozen? ⟨d, i, .none⟩ = false
  rD : w.ownsRow X 5 1 vD dn.length (by8 dn)
  rL : w.ownsRow X 5 1 vL ln.length (by8 ln)
  aD : ∀ k, vD.ownBlock = some k → k ≠ d ∧ vL.ownBlock ≠ some k
  aL : ∀ k, vL.ownBlock = some k → k ≠ d
  gl : g ≤ dn.length
  Xd : X ≤ d
  Xw : X ≤ w.heap.size
section
variable {w v : World} {d X : Nat} {vD vL : Value} {dn ln : List Int} {g : Nat} {S : Nat → Prop}
theorem Bok.lt (h : Bok w d X vD vL dn ln g) : d < w.heap.size := lt_cell h.c1
theorem Bok.keep (h : Bok w d X vD vL dn ln g) (t : Chg S w v) (hd : ¬ S d) (h1 : ∀ k, vD.ownBlock = some k → ¬ S k) (h2 : ∀ k, vL.ownBlock = some k → ¬ S k) : Bok v d X vD vL dn ln g :=
  ⟨(t.cell (p := ⟨d, 0, .none⟩) h.lt hd).trans h.c0, (t.cell (p := ⟨d, 1, .none⟩) h.lt hd).trans h.c1, (t.cell (p := ⟨d, 2, .none⟩) h.lt hd).trans h.c2, fun i => (t.frozen (p := ⟨d, i, .none⟩) h.lt hd).trans (h.fz i), t.own h.rD h1, t.own h.rL h2, h.aD, h.aL, h.gl, h.Xd, Nat.le_trans h.Xw t.size⟩
theorem Bok.below (h : Bok w d X vD vL dn ln g) (t : Below w.heap.size w v) : Bok v d X vD vL dn ln g := h.keep (S := fun _ => False) (Chg.ofBelow t) (fun h => h) (fun _ _ h => h) (fun _ _ h => h)
theorem Bok.drewN (h : Bok w d X vD vL dn ln g) (k : Nat) : Bok (w.drewN k) d X vD vL dn ln g := ⟨h.c0, h.c1, h.c2, h.fz, h.rD, h.rL, h.aD, h.aL, h.gl, h.Xd, h.Xw⟩
theorem Bok.trn (h : Bok w d X vD vL dn ln g) {b : Nat} (t : Trn b w v) (hb : b < X) : Bok v d X vD vL dn ln g :=
  h.keep (Chg.ofTrn t) (by have := h.Xd; show ¬ d = b; omega) (fun k hk e => by have := own_block h.rD k hk; have e : k = b := e; omega) (fun k hk e => by have := own_block h.rL k hk; have e : k = b := e; omega)
theorem Bok.froz (h : Bok w d X vD vL dn ln g) (o : Nat) (u : Value) : ∀ i, (w.setCell ⟨d, o, .none⟩ u).frozen? ⟨d, i, .none⟩ = false := fun i => by
  have := World.frozen?_setCells d [u] o w ⟨d, i, .none⟩
  exact this.trans (h.fz i)
theorem Bok.setG (h : Bok w d X vD vL dn ln g) (g' : Nat) (hg : g' ≤ dn.length) : Bok (w.setCell ⟨d, 1, .none⟩ (.int .i64 g')) d X vD vL dn ln g' :=
  ⟨cell_off h.c0 _ _ (by decide), cell_one h.c1 _, cell_off h.c2 _ _ (by decide), h.froz _ _, own_setd h.rD (fun k hk => (h.aD k hk).1) _, own_setd h.rL h.aL _, h.aD, h.aL, hg, h.Xd, by simp [World.setCell]; exact h.Xw⟩
theorem Bok.setL (h : Bok w d X vD vL dn ln g) (v' : Value) (ln' : List Int) (hO : w.ownsRow X 5 1 v' ln'.length (by8 ln')) (h1 : ∀ k, v'.ownBlock = some k → k ≠ d ∧ vD.ownBlock ≠ some k) : Bok (w.setCell ⟨d, 2, .none⟩ v') d X vD v' dn ln' g :=
  ⟨cell_off h.c0 _ _ (by decide), cell_off h.c1 _ _ (by decide), cell_one h.c2 _, h.froz _ _, own_setd h.rD (fun k hk => (h.aD k hk).1) _, own_setd hO (fun k hk => (h1 k hk).1) _, fun k hk => ⟨(h.aD k hk).1, fun e => (h1 k e).2 hk⟩, fun k hk => (h1 k hk).1, h.gl, h.Xd, by simp [World.setCell]; exact h.Xw⟩
theorem Bok.setD (h : Bok w d X vD vL dn ln g) (v' : Value) (dn' : List Int) (hO : w.ownsRow X 5 1 v' dn'.length (by8 dn')) (h1 : ∀ k, v'.ownBlock = some k → k ≠ d ∧ vL.ownBlock ≠ some k) (hg : g ≤ dn'.length) : Bok (w.setCell ⟨d, 0, .none⟩ v') d X v' vL dn' ln g :=
  ⟨cell_one h.c0 _, cell_off h.c1 _ _ (by decide), cell_off h.c2 _ _ (by decide), h.froz _ _, own_setd hO (fun k hk => (h1 k hk).1) _, own_setd h.rL h.aL _, h1, h.aL, hg, h.Xd, by simp [World.setCell]; exact h.Xw⟩
theorem bel_set (h : Bok w d X vD vL dn ln g) (o : Nat) (u : Value) : Below X w (w.setCell ⟨d, o, .none⟩ u) := (Trn.setCell d o u w).toBelow h.Xd h.Xw
end
/-- What a key makes of the book. -/
def BokT (w : World) (d X : Nat) (dn ln dn' ln' : List Int) (g : Nat) (e : Ending) (w' : World) : Prop :=
  (∃ v, e = .returned v) ∧ (∃ vD' vL', Bok w' d X vD' vL' dn' ln' g) ∧ Below X w w'
section
variable {w : World} {d X : Nat} {vD vL : Value} {dn ln : List Int} {g : Nat}
set_option maxHeartbeats 2000000 in
theorem typed_kill (h : Bok w d X vD vL dn ln g) : Calls Tryd.prog 16 #[.pointer (some ⟨d, 0, .none⟩), .int .u8 21] w (BokT w d X dn ln dn [] g) := by
  have c2 := h.c2
  have f2 := h.fz 2
  have HB : Hid (Bok w d X vD vL dn ln g) := h
  clear h
  go_enter Tryd.func16, Tryd.ntmps16
  go_wp2
  go_end0
  exact ⟨⟨_, rfl⟩, ⟨vD, _, HB.out.setL (.slice none 0 0) [] (World.ownsRow_nil _ _ _ _) (fun k hk => by cases hk)⟩, bel_set HB.out _ _⟩
set_option maxHeartbeats 2000000 in
theorem typed_zero (h : Bok w d X vD vL dn ln g) : Calls Tryd.prog 16 #[.pointer (some ⟨d, 0, .none⟩), .int .u8 0] w (BokT w d X dn ln dn ln g) := by
  have HB : Hid (Bok w d X vD vL dn ln g) := h
  clear h
  go_enter Tryd.func16, Tryd.ntmps16
  go_wp2
  go_end0
  exact ⟨⟨_, rfl⟩, ⟨vD, vL, HB.out⟩, Below.refl _ _⟩
theorem own_short {X n c k : Nat} {gg : Nat} {zs : List Int} (h : w.ownsRow X 5 1 (.slice (some ⟨gg, 0, .none⟩) n c) n (by8 zs)) (hk : k ≤ n) : w.ownsRow X 5 1 (.slice (some ⟨gg, 0, .none⟩) k c) k (by8 (zs.take k)) := by
  obtain ⟨h1, h2⟩ := h
  rw [by8_len, Nat.mul_one] at h1
  rcases h2 with ⟨h3, _⟩ | ⟨g', cap, cur, h3, h4, h5, h6, h7, h8, h9⟩
  · cases h3
  · injection h3 with e1 e2 e3
    injection e1 with e1
    injection e1 with e1
    subst e1 e3
    refine ⟨by rw [by8_len, List.length_take]; omega, .inr ⟨gg, c, cur, rfl, h4, h5, by omega, h7, h8, ?_⟩⟩
    rw [Nat.mul_one] at h9 ⊢
    have : (by8 zs).take k = by8 (zs.take k) := by unfold by8; rw [List.map_take]
    rw [← this, ← h9, List.take_take, Nat.min_eq_left hk]
theorem cut_line (gg n c : Nat) (hn : 0 < n) (hc : n ≤ c) (W : World) : (Instr.slice 22 (.slice (some ⟨gg, 0, .none⟩) n c) none (some (.int .i64 ((n : Int) - 1))) none).run Tryd.prog W = .ok (.slice (some ⟨gg, 0, .none⟩) (n - 1) c) W := by
  have := cut_to (some ⟨gg, 0, .none⟩) n c (n - 1) (by omega) W
  rw [show ((n - 1 : Nat) : Int) = (n : Int) - 1 by omega] at this
  rw [this]
  unfold cutp
  rw [if_neg (by omega)]
  simp [le_addr_add]
set_option maxHeartbeats 4000000 in
theorem typed_erase (h : Bok w d X vD vL dn ln g) (hs : ln.length ≤ 100000) : Calls Tryd.prog 16 #[.pointer (some ⟨d, 0, .none⟩), .int .u8 8] w (BokT w d X dn ln dn (ln.take (ln.length - 1)) g) := by
  obtain ⟨pL, cL, rfl⟩ := one_slice h.rL
  have c2 := h.c2
  have f2 := h.fz 2
  have HB : Hid (Bok w d X vD (.slice pL ln.length cL) dn ln g) := h
  by_cases h0 : ln.length = 0
  · have e0 : ln = [] := List.eq_nil_of_length_eq_zero h0
    have HE : Hid (ln.take (ln.length - 1) = ln) := by show _ = _; rw [e0]; rfl
    rw [HE.out]
    clear h e0
    rw [h0] at c2
    go_enter Tryd.func16, Tryd.ntmps16
    go_wp2
    go_end0
    exact ⟨⟨_, rfl⟩, ⟨vD, _, HB.out⟩, Below.refl _ _⟩
  · obtain ⟨gg, rfl⟩ : ∃ gg, pL = some ⟨gg, 0, .none⟩ := by
      obtain ⟨m, hm⟩ : ∃ m, ln.length = m + 1 := ⟨ln.length - 1, by omega⟩
      have := h.rL
      rw [hm] at this
      exact own_some this
    have hcap := own_cap h.rL
    have hcm : cL ≤ 9223372036854775807 := hcap.2
    obtain ⟨n, hn⟩ : ∃ n, n = ln.length := ⟨_, rfl⟩
    have HS : Hid (w.ownsRow X 5 1 (.slice (some ⟨gg, 0, .none⟩) (n - 1) cL) (n - 1) (by8 (ln.take (n - 1))) ∧ (ln.take (n - 1)).length = n - 1 ∧ n = ln.length) := by
      refine ⟨?_, by rw [List.length_take]; omega, hn⟩
      have := h.rL
      rw [← hn] at this
      exact own_short this (by omega)
    rw [← hn] at c2 h0 hs hcap ⊢
    have ca := cutat (some ⟨gg, 0, .none⟩) n cL
    have cl := cut_line gg n cL (by omega) hcap.1
    have g0 : (n : Int) > 0 := by omega
    clear h hn
    go_enter Tryd.func16, Tryd.ntmps16
    go_wp2
    go_region
    go_wp2
    go_end0
    have q := HB.out.drewN 1
    have q2 := q.setL (.slice (some ⟨gg, 0, .none⟩) (n - 1) cL) (ln.take (n - 1)) (by rw [HS.out.2.1]; exact HS.out.1) (fun k hk => ⟨HB.out.aL k hk, fun e => (HB.out.aD k e).2 hk⟩)
    exact ⟨⟨_, rfl⟩, ⟨vD, _, q2⟩, (⟨rfl, rfl, rfl, Nat.le_refl _, fun _ _ => rfl⟩ : Below X w (w.drewN 1)).trans (bel_set q _ _)⟩
set_option maxHeartbeats 4000000 in
theorem typed_delete (h : Bok w d X vD vL dn ln g) (hs : ln.length ≤ 100000) : Calls Tryd.prog 16 #[.pointer (some ⟨d, 0, .none⟩), .int .u8 127] w (BokT w d X dn ln dn (ln.take (ln.length - 1)) g) := by
  obtain ⟨pL, cL, rfl⟩ := one_slice h.rL
  have c2 := h.c2
  have f2 := h.fz 2
  have HB : Hid (Bok w d X vD (.slice pL ln.length cL) dn ln g) := h
  by_cases h0 : ln.length = 0
  · have e0 : ln = [] := List.eq_nil_of_length_eq_zero h0
    have HE : Hid (ln.take (ln.length - 1) = ln) := by show _ = _; rw [e0]; rfl
    rw [HE.out]
    clear h e0
    rw [h0] at c2
    go_enter Tryd.func16, Tryd.ntmps16
    go_wp2
    go_end0
    exact ⟨⟨_, rfl⟩, ⟨vD, _, HB.out⟩, Below.refl _ _⟩
  · obtain ⟨gg, rfl⟩ : ∃ gg, pL = some ⟨gg, 0, .none⟩ := by
      obtain ⟨m, hm⟩ : ∃ m, ln.length = m + 1 := ⟨ln.length - 1, by omega⟩
      have := h.rL
      rw [hm] at this
      exact own_some this
    have hcap := own_cap h.rL
    have hcm : cL ≤ 9223372036854775807 := hcap.2
    obtain ⟨n, hn⟩ : ∃ n, n = ln.length := ⟨_, rfl⟩
    have HS : Hid (w.ownsRow X 5 1 (.slice (some ⟨gg, 0, .none⟩) (n - 1) cL) (n - 1) (by8 (ln.take (n - 1))) ∧ (ln.take (n - 1)).length = n - 1 ∧ n = ln.length) := by
      refine ⟨?_, by rw [List.length_take]; omega, hn⟩
      have := h.rL
      rw [← hn] at this
      exact own_short this (by omega)
    rw [← hn] at c2 h0 hs hcap ⊢
    have ca := cutat (some ⟨gg, 0, .none⟩) n cL
    have cl := cut_line gg n cL (by omega) hcap.1
    have g0 : (n : Int) > 0 := by omega
    clear h hn
    go_enter Tryd.func16, Tryd.ntmps16
    go_wp2
    go_region
    go_wp2
    go_end0
    have q := HB.out.drewN 1
    have q2 := q.setL (.slice (some ⟨gg, 0, .none⟩) (n - 1) cL) (ln.take (n - 1)) (by rw [HS.out.2.1]; exact HS.out.1) (fun k hk => ⟨HB.out.aL k hk, fun e => (HB.out.aD k e).2 hk⟩)
    exact ⟨⟨_, rfl⟩, ⟨vD, _, q2⟩, (⟨rfl, rfl, rfl, Nat.le_refl _, fun _ _ => rfl⟩ : Below X w (w.drewN 1)).trans (bel_set q _ _)⟩

end
end Go.Proofs.YtblpdnchphhcaaaDoor
