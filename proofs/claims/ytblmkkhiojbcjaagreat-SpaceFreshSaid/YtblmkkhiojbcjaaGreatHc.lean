import Derived.Test.YtblmkkhiojbcjaaGreatGg
import Derived.Test.YtblmkkhiojbcjaaGreatUl
namespace Go.Proofs.YtblmkkhiojbcjaaGreat
open Go Go.RowKit Fz
set_option linter.unusedVariables false
set_option linter.unusedSimpArgs false
/-- An append of one page to a row of the call's own, and what else stays. -/
theorem run_append_keep3 (P : Program) (w : World) (base : Nat) (t ty e : TypeId) (i : TypeInfo) (z : Value) (bytes : Nat) (ht : P.underlying t = some (.slice e)) (hi : P.info? e = some i) (hz : i.zero = some z)
    (hsize : i.size = 3) (hby : i.bytes = bytes) (hzs : z.cells.size = 3) (v : Value) (n : Nat) (xs : List Value) (hown : w.ownsRow base e 3 v n xs)
    (a : Addr) (c : Nat) (news : List Value) (hl : news.length = 3) (hnews : ∀ j u, news[j]? = some u → w.cell? (a.add j) = some u) (h1 : ∀ u ∈ news, u.oneCell' = true) (h63 : n + 1 ≤ maxLen) (hbytes : (n + 1) * bytes ≤ 140737488355328) (hbase : base ≤ w.heap.size) :
    ∃ v' w', (Builtin.append_ #[t, t] ty #[v, .slice (some a) 1 c]).run P w = .ok v' w' ∧ w'.ownsRow base e 3 v' (n + 1) (xs ++ news) ∧ w.grownBy w' v.ownBlock ∧
      (∀ v0 n0 xs0, (v0.ownBlock = v.ownBlock → n0 ≤ n) → w.ownsRow base e 3 v0 n0 xs0 → w'.ownsRow base e 3 v0 n0 xs0) ∧ (∃ b, v'.ownBlock = some b ∧ (v.ownBlock = some b ∨ w.heap.size ≤ b)) := by
  have h63' : n + 1 ≤ 9223372036854775807 := by simp only [maxLen] at h63; omega
  obtain ⟨v', w', hr, h2, h3, h4⟩ := run_append_own (P := P) w base t ty e i z 3 bytes ht hi hz hsize hby hzs (by decide) v n xs hown a 1 c news (by rw [hl]) hnews h1 h63 hbytes hbase
  refine ⟨v', w', hr, h2, h3, ?_, ?_⟩
  · rcases hown.2 with ⟨rfl, rfl⟩ | ⟨g, cap, cur, rfl, hbg, hg, hnc, hcm, hcs, htake⟩
    · intro v0 n0 xs0 hn0 h0
      exact h0.kept h3 (by cases v0.ownBlock <;> simp [Value.ownBlock])
    · intro v0 n0 xs0 hn0 h0
      by_cases hroom : n + 1 ≤ cap
      · have hr' := run_append_room (P := P) w t ty e i ht hi g n cap cur hg a 1 c news (by rw [hsize, hl]) hnews h1 hroom (by rw [hsize, hcs, hl]; omega)
        rw [hr] at hr'
        simp only [Result.ok.injEq] at hr'
        obtain ⟨rfl, rfl⟩ := hr'
        rcases h0.2 with ⟨rfl, rfl⟩ | ⟨g0, cap0, cur0, rfl, hb0, hg0, hn0', hc0, hs0, ht0⟩
        · exact ⟨h0.1, .inl ⟨rfl, rfl⟩⟩
        · by_cases hgg : g0 = g
          · subst hgg
            have hn0 := hn0 rfl
            have hcc : cur0 = cur := by
              have e := hg0.symm.trans hg
              simp only [Option.some.injEq, Obj.cells.injEq] at e
              exact e.1
            subst hcc
            refine ⟨h0.1, .inr ⟨g0, cap0, _, rfl, hb0, setRow_heap w g0 cur0 _ e _ hg, hn0', hc0, ?_, ?_⟩⟩
            · simp only [List.size_toArray, List.length_append, List.length_take, List.length_drop, Array.length_toList, hsize, hl]
              omega
            · simp only [hsize, List.append_assoc]
              rw [List.take_append_of_le_length (by simp only [List.length_take, Array.length_toList]; omega), List.take_take, Nat.min_eq_left (by omega)]
              exact ht0
          · exact h0.kept h3 (.inr (by simp [Value.ownBlock, hgg]))
      · have hr' := run_append_grow (P := P) w t ty e i z ht hi hz ⟨g, 0, none⟩ n cap xs (by rw [hsize]; exact hown.1) (hown.cells (g := g) rfl) a 1 c news (by rw [hsize, hl]) hnews (by omega) (by omega) (growslice_fits (by omega) (by rw [hby]; exact hbytes))
        rw [hr] at hr'
        simp only [Result.ok.injEq] at hr'
        obtain ⟨rfl, rfl⟩ := hr'
        exact h0.kept (row := none) ⟨rfl, rfl, rfl, by simp, fun k hk _ => RowKit.Below.heap_alloc w.drew _ k hk⟩ (by cases v0.ownBlock <;> simp)
  · rcases hown.2 with ⟨rfl, rfl⟩ | ⟨g, cap, cur, rfl, hbg, hg, hnc, hcm, hcs, htake⟩
    · have hr' := run_append_nil (P := P) w t ty e i z ht hi hz a 1 c news (by rw [hsize, hl]) hnews (by omega) (by omega) (by have := hbytes; rw [hby]; omega)
      rw [hr] at hr'
      simp only [Result.ok.injEq] at hr'
      obtain ⟨rfl, rfl⟩ := hr'
      exact ⟨_, rfl, .inr (Nat.le_refl _)⟩
    · by_cases hroom : n + 1 ≤ cap
      · have hr' := run_append_room (P := P) w t ty e i ht hi g n cap cur hg a 1 c news (by rw [hsize, hl]) hnews h1 hroom (by rw [hsize, hcs, hl]; omega)
        rw [hr] at hr'
        simp only [Result.ok.injEq] at hr'
        obtain ⟨rfl, rfl⟩ := hr'
        exact ⟨_, rfl, .inl rfl⟩
      · have hr' := run_append_grow (P := P) w t ty e i z ht hi hz ⟨g, 0, none⟩ n cap xs (by rw [hsize]; exact hown.1) (hown.cells (g := g) rfl) a 1 c news (by rw [hsize, hl]) hnews (by omega) (by omega) (growslice_fits (by omega) (by rw [hby]; exact hbytes))
        rw [hr] at hr'
        simp only [Result.ok.injEq] at hr'
        obtain ⟨rfl, rfl⟩ := hr'
        exact ⟨_, rfl, .inr (Nat.le_refl _)⟩
theorem wpList_append_keep3 {P : Program} (w : World) {ops : Array Oper} {rest : List Oper} {o : Oper} {a : Act} {Q : Exit → Act → World → Prop} (hgd : o.guard = none) (s x : Operand) (t : TypeId)
    (ho : o.op = .call { callee := .builtin .append, args := #[s, x], argTypes := #[t, t] })
    (base : Nat) (e : TypeId) (i : TypeInfo) (z : Value) (bytes : Nat) (ht : P.underlying t = some (.slice e)) (hi : P.info? e = some i) (hz : i.zero = some z)
    (hsize : i.size = 3) (hby : i.bytes = bytes) (hzs : z.cells.size = 3) (v : Value) (n : Nat) (xs : List Value) (hs : a.eval s = v) (hown : w.ownsRow base e 3 v n xs)
    (ad : Addr) (c : Nat) (news : List Value) (hx : a.eval x = .slice (some ad) 1 c) (hl : news.length = 3) (hnews : ∀ j u, news[j]? = some u → w.cell? (ad.add j) = some u) (h1 : ∀ u ∈ news, u.oneCell' = true)
    (h63 : n + 1 ≤ maxLen) (hbytes : (n + 1) * bytes ≤ 140737488355328) (hbase : base ≤ w.heap.size)
    (h : ∀ v' w', w'.ownsRow base e 3 v' (n + 1) (xs ++ news) → w.grownBy w' v.ownBlock → (∀ v0 n0 xs0, (v0.ownBlock = v.ownBlock → n0 ≤ n) → w.ownsRow base e 3 v0 n0 xs0 → w'.ownsRow base e 3 v0 n0 xs0) →
      (∃ b, v'.ownBlock = some b ∧ (v.ownBlock = some b ∨ w.heap.size ≤ b)) → wpList P ops Q rest (a.put o.dst v') w') : wpList P ops Q (o :: rest) a w := by
  obtain ⟨v', w', hr, h2, h3, h4, h5⟩ := run_append_keep3 P w base t o.type e i z bytes ht hi hz hsize hby hzs v n xs hown ad c news hl hnews h1 h63 hbytes hbase
  refine wpList_plain hgd fun K hK => ?_
  unfold Oper.wp execOp
  simp only [ho, resolve, invoke, builtin, Sem.run_bind, Sem.run_pure, Result.andThen_ok, List.map_toArray, List.map_cons, List.map_nil, hs, hx, hr]
  exact hK _ _ (h v' w' h2 h3 h4 h5)

/-- A row of pages, as it is read. -/
def SeeP (w : World) (q : Option Addr) (l : List Pg) : Prop := l = [] ∨ ∃ g, q = some ⟨g, 0, .none⟩ ∧ g < w.heap.size ∧ ∀ i x, l[i]? = some x → w.cell? ⟨g, i * 3, .none⟩ = some (.int .u64 x.1) ∧ w.cell? ⟨g, i * 3 + 1, .none⟩ = some (.int .u64 x.2.1) ∧ w.cell? ⟨g, i * 3 + 2, .none⟩ = some (.int .u64 x.2.2)
theorem SeeP.below {w w' : World} {q : Option Addr} {l : List Pg} (h : SeeP w q l) (b : Below w.heap.size w w') : SeeP w' q l := by
  rcases h with h | ⟨g, hq, hg, hr⟩
  · exact .inl h
  · exact .inr ⟨g, hq, Nat.lt_of_lt_of_le hg b.size, fun i x hx => ⟨(b.cell (p := ⟨g, i * 3, .none⟩) hg).trans (hr i x hx).1, (b.cell (p := ⟨g, i * 3 + 1, .none⟩) hg).trans (hr i x hx).2.1, (b.cell (p := ⟨g, i * 3 + 2, .none⟩) hg).trans (hr i x hx).2.2⟩⟩
theorem own_seeP {W : World} {l : List Pg} {q : Option Addr} {cap base n : Nat} (hn : l.length = n) (h : W.ownsRow base 99 3 (.slice q n cap) n (pcs l)) : SeeP W q l := by
  by_cases h0 : n = 0
  · exact .inl (List.eq_nil_of_length_eq_zero (by omega))
  rcases h.2 with h1 | ⟨g, cap', cur, h1, _⟩
  · exact absurd h1.2 h0
  injection h1 with h1
  subst h1
  refine .inr ⟨g, rfl, (own_lt h).2.1, fun i x hx => ?_⟩
  have hi : i < n := by
    have := (List.getElem?_eq_some_iff.1 hx).1
    omega
  obtain ⟨k1, k2, k3⟩ := pcs_get l i x hx
  exact ⟨(h.cellAt (i * 3) (by omega)).trans k1, (h.cellAt (i * 3 + 1) (by omega)).trans k2, (h.cellAt (i * 3 + 2) (by omega)).trans k3⟩
def CpyR (w : World) (l : List Pg) (e : Ending) (w' : World) : Prop := ∃ q c, e = .returned (.slice q l.length c) ∧ w'.ownsRow w.heap.size 99 3 (.slice q l.length c) l.length (pcs l) ∧ Below w.heap.size w w'
def CpyI (w : World) (l : List Pg) (v3 v4 : Value) (wr : World) : Prop := ∃ (i : Nat) (q : Option Addr) (c : Nat), i ≤ l.length ∧ v3 = .slice q i c ∧ v4 = .int .i64 i ∧ wr.ownsRow w.heap.size 99 3 (.slice q i c) i (pcs (l.take i)) ∧ Below w.heap.size w wr
theorem pc_one (x : Pg) : ∀ u ∈ [Value.int .u64 x.1, .int .u64 x.2.1, .int .u64 x.2.2], u.oneCell' = true := by simp [Value.oneCell']
set_option maxHeartbeats 1000000 in
theorem pcopied_any {w : World} {l : List Pg} {ca n : Nat} {qa : Option Addr} (hln : l.length = n) (hn : n ≤ 1000000) (ha : SeeP w qa l) : Calls Tryz.prog 23 #[.slice qa n ca] w fun e w' => CpyR w l e w' := by
  obtain ⟨j0, z0, hj0, hjz, hj1, hj2, hjs⟩ := look_info
  have HL : Hid (l.length = n) := hln
  go_enter Tryz.func23, Tryz.ntmps23
  go_wp2
  go_loopw [3, 4] (fun v3 v4 wr => CpyI w l v3 v4 wr) (fun _ v4 _ => n - (intOf v4).toNat)
  case atStart => exact ⟨0, .none, 0, by omega, rfl, rfl, World.ownsRow_nil _ _ _ _, Below.refl _ _⟩
  case round =>
    obtain ⟨i, q, c, hi, rfl, rfl, hO, hB⟩ := hrel
    rw [HL.out] at hi
    have HB : Hid (Below w.heap.size w wr) := hB
    have HO : Hid (wr.ownsRow w.heap.size 99 3 (.slice q i c) i (pcs (l.take i))) := hO
    by_cases hin : i < n
    · obtain ⟨x, hx⟩ : ∃ x, l[i]? = some x := ⟨l[i]'(by omega), List.getElem?_eq_getElem _⟩
      rcases ha with h | ⟨g1, rfl, hg1, r1⟩
      · rw [h] at hln; simp at hln; omega
      have i1 : (i : Int) < n := by omega
      have k0 := (hB.cell (p := ⟨g1, i * 3, .none⟩) hg1).trans (r1 i x hx).1
      have k1 := (hB.cell (p := ⟨g1, i * 3 + 1, .none⟩) hg1).trans (r1 i x hx).2.1
      have k2 := (hB.cell (p := ⟨g1, i * 3 + 2, .none⟩) hg1).trans (r1 i x hx).2.2
      have HOA : Hid (∀ o, (wr.alloc o).ownsRow w.heap.size 99 3 (.slice q i c) i (pcs (l.take i))) := fun o => hO.alloc o
      have Hx : Hid (l[i]? = some x) := hx
      have hb1 : ¬ (n : Int) ≤ i := by omega
      have hb2 : ¬ n ≤ i := by omega
      clear hB r1 hO hx hln
      go_wp2_with (first | (at_builtin; refine wpList_append_own _ rfl _ _ 44 rfl w.heap.size 99 j0 z0 3 24 Tryz.underlying44 hj0 hjz hj1 hj2 hjs (by decide) _ _ (pcs (l.take i)) rfl (HOA.out _) ⟨wr.heap.size, 0, .none⟩ 1 1 [.int .u64 x.1, .int .u64 x.2.1, .int .u64 x.2.2] rfl rfl (three_new _ _ _ _ _) (pc_one x) (by unfold maxLen; omega) (by omega) (by simp only [World.size_alloc]; exact Nat.le_succ_of_le HB.out.size) ?_; intro v' w5 hown5 hgrow _) | fail)
      have hBA : Below w.heap.size w (wr.alloc (.cells #[.int .u64 x.1, .int .u64 x.2.1, .int .u64 x.2.2] 99)) := HB.out.alloc HB.out.size _
      have hB5 : Below w.heap.size w w5 := hBA.grown hgrow hBA.size (fun k hk => ((HO.out.lt k hk)).1)
      obtain ⟨g2, cap2, rfl⟩ := ownsRow_some hown5
      refine ⟨⟨i + 1, _, _, by rw [HL.out]; omega, rfl, by simp, ?_, hB5⟩, by simp [intOf]; omega⟩
      rw [List.take_add_one, Hx.out, Option.toList_some, pcs_app]
      exact hown5
    · have i1 : ¬ ((i : Int) < n) := by omega
      clear hB ha hO
      have hin' : i = l.length := by omega
      have HP : Hid (CpyR w l (.returned (.slice q i c)) wr) := by
        subst hin'
        have := HO.out
        rw [List.take_length] at this
        exact ⟨q, c, rfl, this, HB.out⟩
      clear hin'
      go_wp2
      go_ret
      exact HP.out
end Go.Proofs.YtblmkkhiojbcjaaGreat
