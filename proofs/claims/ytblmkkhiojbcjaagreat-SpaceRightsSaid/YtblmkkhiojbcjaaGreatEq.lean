import Derived.Test.YtblmkkhiojbcjaaGreatEp
namespace Go.Proofs.YtblmkkhiojbcjaaGreat
open Go Go.RowKit
set_option linter.unusedVariables false
set_option linter.unusedSimpArgs false
section
variable {w : World} {s p b m N r P K : Nat} {B : Nat → Int} {L : List Nat} {F : Nat → Option Nat} {lf : Nat → Nat → Int} {fr : Nat → Nat} {c : Nat → Int}
/-- What a page that is guarded comes to. -/
def GdP (w : World) (s p b m N r P K : Nat) (fr : Nat → Nat) (c : Nat → Int) (e : Ending) (w' : World) : Prop := e = .returned (.int .i64 0) ∧ (∃ B' L' F' lf', SpG w' s p b m N r P K B' L' F' lf' fr c) ∧ Fra p b m w w'
theorem SpG.guard (h : SpG w s p b m N r P K B L F lf fr c) (hP : P ≤ 512) (i : Nat) (hi : 1 ≤ i ∧ i < P) {d : Int} (hd : rdb (c i) d) : Calls Tryz.prog 11 #[.pointer (some ⟨s, 0, .none⟩), .int .i64 (i : Int)] w (GdP w s p b m N r P K fr (upd c i d)) := by
  have hN := h.su.ram.mem.n2
  have hq := h.su.pag i hi.2
  have h0 := h.su.pag 0 (by omega)
  have e00 : y0 (((0 : Nat) : Int) * 4096) = 513 ∧ i0 (((0 : Nat) : Int) * 4096) = 0 := ⟨low_y0 0 (by omega), low_i0 0 (by omega)⟩
  refine (guard_pt h.su.sp h.su.ram h.su.pt h.su.rt h.su.ne (i : Int) (by omega) (by omega) hd hq 0 ⟨by omega, by rw [low_i0 i (by omega)]; omega, ?_⟩).mono fun e w' h9 => ?_
  · have hl := h0.l
    have hk := h0.k
    rw [e00.1, e00.2] at hl
    rw [low_y0 i (by omega), hl]
    exact hk
  · obtain ⟨he, hfra, B', hram, hpt, hby⟩ := h9
    rw [low_y0 i (by omega), low_i0 i (by omega)] at hpt
    refine ⟨he, ⟨B', L, F, _, ⟨h.su.sp.fra hfra h.su.ne.1 h.su.ne.2.1 h.su.ne.2.2, h.su.sz, h.su.pm, hram, hpt, h.su.rt, h.su.ne, fun j hj => ?_⟩, fun k h1 h2 => ?_, h.nod, h.len, h.inj⟩, hfra⟩
    · have hqj := h.su.pag j hj
      unfold upd
      by_cases hij : j = i
      · subst hij
        rw [if_pos rfl]
        have hl := rdb_leaf hd hq.qb.1 hN
        refine ⟨hq.w1, hq.w0, ?_, hl.1, by unfold rdb at hd; omega, hq.qb, hq.nn⟩
        rw [low_y0 j (by omega), low_i0 j (by omega)]
        unfold setE
        rw [if_pos ⟨rfl, rfl⟩]
      · rw [if_neg hij]
        refine ⟨hqj.w1, hqj.w0, ?_, hqj.k, hqj.cb, hqj.qb, hqj.nn⟩
        have := hqj.l
        rw [low_y0 j (by omega), low_i0 j (by omega)] at this ⊢
        unfold setE
        rw [if_neg (fun e => hij e.2)]
        exact this
    · unfold setE
      rw [if_neg (fun e => by omega)]
      exact h.zr k h1 h2
end
end Go.Proofs.YtblmkkhiojbcjaaGreat
