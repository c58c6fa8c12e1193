import Derived.Test.YtloldhcljdmofaaDoorRq5
import Derived.Test.YtloldhcljdmofaaDoorLft
import Derived.Test.YtloldhcljdmofaaDoorTie
import Derived.Test.YtloldhcljdmofaaDoorCards
import Derived.ChangeOld
import Derived.Below
import Derived.Carry
import Derived.ProofKit
import Derived.OpenShut
import Derived.LaidMore
import Derived.SevenTiedAt
import Derived.Stop.Joined
import Derived.Lib.SmallJoins
import Derived.Lib.LaidTab
import Derived.Deep.Slices
import Derived.Test.YtloldhcljdmofaaDoorFrB
import Derived.Test.YtloldhcljdmofaaDoorArF
namespace Go.Proofs.YtloldhcljdmofaaDoor
open Go.RowKit
theorem Hid.mk' {P : Prop} (h : P) : Hid P := h
theorem Byt.below {w w' : World} {p : Option Addr} {n c : Nat} {xs : List Int} (h : Byt w p n c xs) (k : Below w.heap.size w w') : Byt w' p n c xs := byt_belowQ h k
end Go.Proofs.YtloldhcljdmofaaDoor
namespace Go.Proofs.YtloldhcljdmofaaDoor
open Go.RowKit
set_option linter.unusedVariables false
set_option linter.unusedSimpArgs false
theorem hd_ex (B : Nat → Int) : ∃ a r, Hd B a r := by
  by_cases h : ∀ i, i < 12 → chk B i
  · exact ⟨0, 0, .inl ⟨rfl, rfl, h⟩⟩
  · have : ∃ i, i < 12 ∧ ¬ chk B i := by
      by_cases h2 : ∃ i, i < 12 ∧ ¬ chk B i
      · exact h2
      · exact absurd (fun i hi => by
          by_cases h3 : chk B i
          · exact h3
          · exact absurd ⟨i, hi, h3⟩ h2) h
    obtain ⟨m, hm⟩ := this
    have key : ∀ k, (∀ j, j < k → chk B j) ∨ ∃ i, i < k ∧ (∀ j, j < i → chk B j) ∧ ¬ chk B i := by
      intro k
      induction k with
      | zero => exact .inl (fun j hj => by omega)
      | succ k ih =>
        rcases ih with ih | ⟨i, h1, h2, h3⟩
        · by_cases hk : chk B k
          · exact .inl (fun j hj => by
              by_cases e : j = k
              · subst e; exact hk
              · exact ih j (by omega))
          · exact .inr ⟨k, by omega, ih, hk⟩
        · exact .inr ⟨i, by omega, h2, h3⟩
    rcases key 12 with h4 | ⟨i, h1, h2, h3⟩
    · exact absurd (h4 m hm.1) hm.2
    · exact ⟨hOf i, if i < 4 then 141 else 142, .inr ⟨i, h1, h2, h3, rfl, rfl⟩⟩
theorem lp_sz {n : Nat} {B : Nat → Int} : ∀ k a (S : List Sg), (∀ s ∈ S, s.sz ≤ n) → (lp n B k a S).1.2 = 0 → ∀ s ∈ (lp n B k a S).2, s.sz ≤ n
  | 0, a, S, h, _ => h
  | k + 1, a, S, h, h0 => by
    unfold lp at h0 ⊢
    by_cases c : (stp n B S a).1 = 0
    · rw [if_neg (by simpa using c)] at h0 ⊢
      refine lp_sz k (a + 56) _ ?_ h0
      unfold stp at c ⊢
      split at c
      · rename_i c1
        rw [if_pos c1]
        exact h
      · rename_i c1
        rw [if_neg c1]
        split at c
        · cases c
        · rename_i c2
          rw [if_neg c2]
          split at c
          · cases c
          · rename_i c3
            rw [if_neg c3]
            split at c
            · cases c
            · rename_i c4
              rw [if_neg c4]
              split at c
              · cases c
              · rename_i c5
                rw [if_neg c5]
                intro s hs
                rcases List.mem_append.1 hs with hs | hs
                · exact h s hs
                · rw [List.mem_singleton] at hs
                  subst hs
                  omega
    · rw [if_pos c] at h0
      exact absurd h0 c
theorem rdF_sz {n : Nat} {B : Nat → Int} {ha hr : Int} (h : (rdF n B ha hr).1.2 = 0) : ∀ s ∈ (rdF n B ha hr).2, s.sz ≤ 262144 := by
  unfold rdF at h ⊢
  split at h
  · cases h
  · rename_i c1
    rw [if_neg c1]
    split at h
    · cases h
    · rename_i c2
      rw [if_neg c2]
      split at h
      · rename_i c3
        exact absurd h c3
      · rename_i c3
        rw [if_neg c3]
        split at h
        · cases h
        · rename_i c4
          rw [if_neg c4]
          split at h
          · cases h
          · rename_i c5
            rw [if_neg c5]
            split at h
            · rename_i c6
              exact absurd h c6
            · rename_i c6
              rw [if_neg c6]
              split at h
              · cases h
              · rename_i c7
                rw [if_neg c7]
                split at h
                · cases h
                · rename_i c8
                  rw [if_neg c8]
                  intro s hs
                  have := lp_sz (n := n) (B := B) (cntB B) (froB B) [] (fun s hs => (nomatch hs)) (by simpa using c6) s hs
                  omega

def enF (n : Nat) (B : Nat → Int) (ha hr : Int) : Int := if (rdF n B ha hr).1.2 = 0 then num B 24 8 else 0
def lsF (n : Nat) (B : Nat → Int) (ha hr : Int) : List Sg := if (rdF n B ha hr).1.2 = 0 then (rdF n B ha hr).2 else []
theorem lsF_sz (n : Nat) (B : Nat → Int) (ha hr : Int) : ∀ s ∈ lsF n B ha hr, s.sz ≤ 400000 := by
  intro s hs
  unfold lsF at hs
  by_cases h : (rdF n B ha hr).1.2 = 0
  · rw [if_pos h] at hs
    have := rdF_sz h s hs
    omega
  · rw [if_neg h] at hs
    cases hs
theorem segs_nil (w : World) (X : Nat) (B : Nat → Int) : Segs w X (.slice .none 0 0) [] B := ⟨World.ownsRow_nil _ _ _ _, fun x hx => (nomatch hx), fun x hx => (nomatch hx)⟩
/-- What Read comes to. -/
def RdX (W : World) (n : Nat) (B : Nat → Int) (ha hr : Int) (e : Ending) (w' : World) : Prop := ∃ sv E v, e = .returned (.tuple #[.agg #[.int .u64 (enF n B ha hr), sv], v]) ∧ ErrR w' v (rdF n B ha hr).1.1 (rdF n B ha hr).1.2 ∧ Segs w' W.heap.size sv E B ∧ E.map (·.1) = lsF n B ha hr ∧ E.length ≤ 8 ∧ Ups E ∧ Below W.heap.size W w'
theorem read_one {W : World} {b o n c : Nat} {B : Nat → Int} (hL : Laid W) (hrow : Row W b o n B) (hbW : b < W.heap.size) (hB : ∀ i, 0 ≤ B i ∧ B i < 256) (hc : n ≤ c ∧ c ≤ 9223372036854775807) (ha hr : Int) (hH : Hd B ha hr) :
    Calls Tryd.prog 16 #[.slice (some ⟨b, o, .none⟩) n c] W fun e w' => RdX W n B ha hr e w' :=
  (read_any hL hrow hbW hB hc ha hr hH).mono fun e w' h => by
    rcases h with ⟨h0, v, rfl, hf, hb⟩ | ⟨h0, sv, E, rfl, hE, hS, hl, hu, hb⟩
    · exact ⟨_, [], v, by rw [enF, if_neg h0], .inl ⟨h0, hf⟩, segs_nil _ _ _, by rw [lsF, if_neg h0]; rfl, by decide, ups_nil, hb⟩
    · exact ⟨sv, E, .nilIface, by rw [enF, if_pos h0], .inr ⟨h0, rfl⟩, hS, by rw [lsF, if_pos h0]; exact hE, hl, hu, hb⟩
def RqX (W : World) (n : Nat) (B : Nat → Int) (ha hr : Int) (e : Ending) (w' : World) : Prop := ∃ sv E fp fn fc, e = .returned (.tuple #[.agg #[.int .u64 (enF n B ha hr), sv], .agg #[.slice fp fn fc, .int .i64 (rdF n B ha hr).1.2]]) ∧ RefR w' (.agg #[.slice fp fn fc, .int .i64 (rdF n B ha hr).1.2]) (rdF n B ha hr).1.1 (rdF n B ha hr).1.2 ∧ Segs w' W.heap.size sv E B ∧ E.map (·.1) = lsF n B ha hr ∧ Below W.heap.size W w'
theorem readQ_one {W : World} {p : Option Addr} {b o n c : Nat} {B : Nat → Int} (hp : 64 ≤ n → p = some ⟨b, o, .none⟩) (hrow : Row W b o n B) (hB : ∀ i, 0 ≤ B i ∧ B i < 256) (hc : n ≤ c ∧ c ≤ 9223372036854775807) (hn3 : n ≤ 400000) (ha hr : Int) (hH : Hd B ha hr) :
    Calls Tryd.prog 17 #[.slice p n c] W fun e w' => RqX W n B ha hr e w' :=
  (readQ_any hp hrow hB hc hn3 ha hr hH).mono fun e w' h => by
    rcases h with ⟨h0, g, rfl, hf, hb⟩ | ⟨h0, sv, E, rfl, hE, hS, hl, hb⟩
    · have hff := hf
      obtain ⟨C, _, rfl, _⟩ := hff
      exact ⟨_, [], _, _, _, by rw [enF, if_neg h0], .inl ⟨h0, hf⟩, segs_nil _ _ _, by rw [lsF, if_neg h0]; rfl, hb⟩
    · exact ⟨sv, E, none, 0, 0, by rw [enF, if_pos h0, h0], .inr ⟨h0, by rw [h0]⟩, hS, by rw [lsF, if_pos h0]; exact hE, hb⟩
theorem Segs.prs' {w : World} {X : Nat} {sv : Value} {E : List (Sg × Value)} {B : Nat → Int} {L : List Sg} (h : Segs w X sv E B) (he : E.map (·.1) = L) (hz : ∀ s ∈ L, s.sz ≤ 400000) : Prs w X sv E B :=
  ⟨h.own, h.dat, fun x hx => by have := (h.gd x hx).v; have := (h.gd x hx).e; have := (h.gd x hx).m; omega, fun x hx => by have := (h.gd x hx).f; omega, fun x hx => by have := (h.gd x hx).v; have := (h.gd x hx).e; have := (h.gd x hx).m; omega, fun x hx => hz _ (by rw [← he]; exact List.mem_map.2 ⟨x, hx, rfl⟩)⟩
theorem same_rr {w : World} {X1 X2 : Nat} {sv1 sv2 : Value} {E1 E2 : List (Sg × Value)} {B : Nat → Int} {L : List Sg} (h1 : Segs w X1 sv1 E1 B) (h2 : Segs w X2 sv2 E2 B) (hB : ∀ k, 0 ≤ B k ∧ B k < 256) (e1 : E1.map (·.1) = L) (e2 : E2.map (·.1) = L) (hz : ∀ s ∈ L, s.sz ≤ 400000) (hl : E1.length ≤ 8) (en : Int) :
    Calls Tryd.prog 18 #[.agg #[.int .u64 en, sv1], .agg #[.int .u64 en, sv2]] w fun e w' => e = .returned (.bool true) ∧ Below w.heap.size w w' := by
  have hlen : E2.length = E1.length := by have := congrArg List.length (e2.trans e1.symm); simpa using this
  have p2 := h2.prs' e2 hz
  obtain ⟨q2, c2, rfl, _⟩ := own_form p2.own
  have a2 := p2.arg hB
  rw [hlen] at a2 ⊢
  refine sameP_any (h1.prs' e1 hz) a2 (fun i x hx => ?_) (by omega) en
  have hy : ∃ y, E2[i]? = some y ∧ y.1 = x.1 := by
    have h3 : (E2.map (·.1))[i]? = some x.1 := by rw [e2, ← e1, List.getElem?_map, hx]; rfl
    rw [List.getElem?_map] at h3
    cases h4 : E2[i]? with
    | none => rw [h4] at h3; cases h3
    | some y => rw [h4] at h3; exact ⟨y, rfl, by injection h3⟩
  obtain ⟨y, hy, hyx⟩ := hy
  obtain ⟨r1, r2, r3, r4⟩ := p2.sr hy
  rw [r1, r2, r3, r4, datD_some hy, hyx]
  exact ⟨rfl, rfl, rfl, rfl, rfl⟩
theorem Segs.move {w w' w0 : World} {X : Nat} {sv : Value} {E : List (Sg × Value)} {B : Nat → Int} (h : Segs w X sv E B) (h0 : Segs w0 X sv E B) (hk : ∀ g, X ≤ g → g < w0.heap.size → w'.heap[g]? = w.heap[g]?) : Segs w' X sv E B :=
  ⟨row_of_block h.own fun g hg => hk g (h0.own.lt g hg).1 (h0.own.lt g hg).2, fun x hx => row_of_block (h.dat x hx) fun g hg => hk g ((h0.dat x hx).lt g hg).1 ((h0.dat x hx).lt g hg).2, h.gd⟩
theorem wx_own {w w' : World} {E : List (Sg × Value)} {B : Nat → Int} {en : Int} {p : Option Addr} {n c : Nat} {v : Value} (h : WxP w E B en (.returned (.tuple #[.slice p n c, v])) w') : ∃ zs, w'.ownsRow w.heap.size 5 1 (.slice p n c) n zs := by
  obtain ⟨_, h⟩ := h
  rcases h with ⟨a, r, v', _, _, e, _⟩ | ⟨_, _, v', e, _⟩ | ⟨_, _, v', e, ho⟩
  · cases e
    exact ⟨[], World.ownsRow_nil _ _ _ _⟩
  · cases e
    exact ⟨[], World.ownsRow_nil _ _ _ _⟩
  · obtain ⟨q, cc, rfl, _⟩ := own_form ho
    cases e
    exact ⟨_, ho⟩
end Go.Proofs.YtloldhcljdmofaaDoor
namespace Go.Proofs.YtloldhcljdmofaaDoor
open Go.RowKit
set_option linter.unusedVariables false
set_option linter.unusedSimpArgs false
def vF (x y : Value) (E : List (Sg × Value)) : Nat → Value
  | 0 => x
  | 1 => y
  | k + 2 => match E[k]? with | some z => z.2 | none => .nilIface
def nF (n : Nat) (E : List (Sg × Value)) : Nat → Nat
  | 0 => n
  | 1 => n
  | k + 2 => match E[k]? with | some z => z.1.sz | none => 0
theorem vF_get (x y : Value) (E : List (Sg × Value)) : ∀ j, j < 2 + E.length → ([x, y] ++ E.map (·.2))[j]? = some (vF x y E j)
  | 0, _ => rfl
  | 1, _ => rfl
  | k + 2, h => by
    have hk : k < E.length := by omega
    have e : ([x, y] ++ E.map (·.2))[k + 2]? = (E.map (·.2))[k]? := rfl
    rw [e, List.getElem?_map, List.getElem?_eq_getElem hk]
    show _ = some (match E[k]? with | some z => z.2 | none => .nilIface)
    rw [List.getElem?_eq_getElem hk]
    rfl
theorem free_rows {W : World} {a0 a1 b0 b1 c0 c1 nx lb lc X : Nat} {x y sv : Value} {E : List (Sg × Value)} {B : Nat → Int} (hx : ∃ zs, W.ownsRow 0 5 1 x nx zs) (ux : ∀ g, x.ownBlock = some g → a0 ≤ g ∧ g < a1) (hy : ∃ zs, W.ownsRow 0 5 1 y nx zs) (uy : ∀ g, y.ownBlock = some g → b0 ≤ g ∧ g < b1) (hs : Segs W c0 sv E B) (us : ∀ z ∈ E, ∀ g, z.2.ownBlock = some g → c0 ≤ g ∧ g < c1) (hup : Ups E) (h1 : a1 ≤ b0) (h2 : b1 ≤ c0) (h3 : c1 ≤ lb) (h4 : a0 ≤ a1 ∧ b0 ≤ b1 ∧ c0 ≤ c1) (hl : E.length ≤ 8) (hnx : nx ≤ 262144) (hsz : ∀ z ∈ E, z.1.sz ≤ 400000)
    (hlv : W.ownsRow X 28 1 (.slice (some ⟨lb, 0, .none⟩) (2 + E.length) lc) (2 + E.length) ([x, y] ++ E.map (·.2))) :
    Calls Tryd.prog 19 #[.slice (some ⟨lb, 0, .none⟩) (2 + E.length) lc] W fun e w' => e = .returned (.bool true) ∧ (w'.os = W.os ∧ w'.tape = W.tape ∧ w'.output = W.output ∧ W.heap.size ≤ w'.heap.size) ∧ ∀ k, k < W.heap.size → ¬ (a0 ≤ k ∧ k < a1) → ¬ (b0 ≤ k ∧ k < b1) → ¬ (c0 ≤ k ∧ k < c1) → w'.heap[k]? = W.heap[k]? := by
  have blk : ∀ j, j < 2 + E.length → ∀ g, (vF x y E j).ownBlock = some g → (j = 0 ∧ a0 ≤ g ∧ g < a1) ∨ (j = 1 ∧ b0 ≤ g ∧ g < b1) ∨ (∃ k z, j = k + 2 ∧ E[k]? = some z ∧ z.2.ownBlock = some g ∧ c0 ≤ g ∧ g < c1) := by
    intro j hj g hg
    match j, hj, hg with
    | 0, _, hg => exact .inl ⟨rfl, ux g hg⟩
    | 1, _, hg => exact .inr (.inl ⟨rfl, uy g hg⟩)
    | k + 2, hj, hg =>
      have hk : k < E.length := by omega
      have he : E[k]? = some E[k] := List.getElem?_eq_getElem hk
      have hv : vF x y E (k + 2) = E[k].2 := by
        show (match E[k]? with | some z => z.2 | none => .nilIface) = _
        rw [he]
      rw [hv] at hg
      exact .inr (.inr ⟨k, E[k], rfl, he, hg, us _ (List.mem_of_getElem? he) g hg⟩)
  have each : ∀ j, j < 2 + E.length → ∃ zs, W.ownsRow 0 5 1 (vF x y E j) (nF nx E j) zs := by
    intro j hj
    match j, hj with
    | 0, _ => exact hx
    | 1, _ => exact hy
    | k + 2, hj =>
      have hk : k < E.length := by omega
      have he : E[k]? = some E[k] := List.getElem?_eq_getElem hk
      have hv : vF x y E (k + 2) = E[k].2 := by
        show (match E[k]? with | some z => z.2 | none => .nilIface) = _
        rw [he]
      have hn : nF nx E (k + 2) = E[k].1.sz := by
        show (match E[k]? with | some z => z.1.sz | none => 0) = _
        rw [he]
      rw [hv, hn]
      exact ⟨_, own_mono (hs.dat _ (List.mem_of_getElem? he)) (Nat.zero_le _)⟩
  obtain ⟨xs0, hx0⟩ := Deep.choose_lt each
  have hnn : ∀ j, j < 2 + E.length → nF nx E j ≤ 1000000 := by
    intro j hj
    match j, hj with
    | 0, _ => show nx ≤ _; omega
    | 1, _ => show nx ≤ _; omega
    | k + 2, hj =>
      have hk : k < E.length := by omega
      have he : E[k]? = some E[k] := List.getElem?_eq_getElem hk
      have hn : nF nx E (k + 2) = E[k].1.sz := by
        show (match E[k]? with | some z => z.1.sz | none => 0) = _
        rw [he]
      rw [hn]
      have := hsz _ (List.mem_of_getElem? he)
      omega
  have hap : Apart (2 + E.length) (vF x y E) := by
    intro i j hi hj hij g hg hg'
    rcases blk i hi g hg with ⟨e1, r1⟩ | ⟨e1, r1⟩ | ⟨k, z, e1, r2, r3, r1⟩ <;> rcases blk j hj g hg' with ⟨e2, r4⟩ | ⟨e2, r4⟩ | ⟨k', z', e2, r5, r6, r4⟩
    · omega
    · omega
    · omega
    · omega
    · omega
    · omega
    · omega
    · omega
    · rcases Nat.lt_or_ge k k' with hk | hk
      · have := hup k k' z z' g g r2 r5 hk r3 r6
        omega
      · have := hup k' k z' z g g r5 r2 (by omega) r6 r3
        omega
  have hlt := own_lt hlv
  refine (freeB_any (2 + E.length) lb lc (nF nx E) (vF x y E) xs0 W (by omega) hnn ⟨hx0, rfl, rfl, rfl, Nat.le_refl _, fun _ _ _ => rfl⟩ hap hlt (fun j hj e => ?_) (fun j hj => ?_)).mono ?_
  · rcases blk j hj lb e with ⟨_, r1⟩ | ⟨_, r1⟩ | ⟨k, z, _, _, _, r1⟩ <;> omega
  · exact (World.ownsRow.cellAt hlv j (by omega)).trans (vF_get x y E j hj)
  · rintro e w' ⟨rfl, xs, hF⟩
    refine ⟨rfl, ⟨hF.os, hF.tape, hF.output, hF.size⟩, fun k hk n1 n2 n3 => hF.block k hk fun j hj e => ?_⟩
    rcases blk j hj k e.symm with ⟨_, r1⟩ | ⟨_, r1⟩ | ⟨k2, z, _, _, _, r1⟩
    · exact n1 r1
    · exact n2 r1
    · exact n3 r1
end Go.Proofs.YtloldhcljdmofaaDoor
namespace Go.Proofs.YtloldhcljdmofaaDoor
open Go.RowKit
set_option linter.unusedVariables false
set_option linter.unusedSimpArgs false
theorem byt_row {w : World} {p : Option Addr} {n c : Nat} {xs : List Int} (h : Byt w p n c xs) : ∃ b o, (64 ≤ n → p = some ⟨b, o, .none⟩) ∧ Row w b o n (fun i => xs.getD i 0) := by
  rcases h.2.2.2 with h0 | ⟨b, o, e, _, hc⟩
  · exact ⟨0, 0, fun hn => by omega, fun i hi => by omega⟩
  · refine ⟨b, o, fun _ => e, fun i hi => ?_⟩
    have hl := h.1
    have hx : xs[i]? = some (xs.getD i 0) := by
      rw [List.getD_eq_getElem?_getD, List.getElem?_eq_getElem (by omega)]
      rfl
    exact hc i _ hx
theorem lent_row {w : World} {X g c : Nat} {xs : List Int} (h : Lent w X g c xs) : Row w g 0 xs.length (fun i => xs.getD i 0) := fun i hi => by
  have hx : (xs ++ marks)[i]? = some (xs.getD i 0) := by
    rw [List.getElem?_append_left hi, List.getD_eq_getElem?_getD, List.getElem?_eq_getElem hi]
    rfl
  have := World.ownsRow.cells h (g := g) rfl i _ (by8_get hx)
  rwa [le_addr_add] at this
theorem Row.belowF {w w' : World} {b o n : Nat} {B : Nat → Int} (h : Row w b o n B) (k : Below w.heap.size w w') : Row w' b o n B := fun i hi => (k.cell (lt_of_cell (h i hi))).trans (h i hi)
theorem Lent.below {w w' : World} {X g c : Nat} {xs : List Int} (h : Lent w X g c xs) (k : Below w.heap.size w w') : Lent w' X g c xs := owns_below h k
/-- A row of bytes. -/
def Bw (w : World) (X n : Nat) (v : Value) : Prop := ∃ zs, w.ownsRow X 5 1 v n zs
theorem Bw.below {w w' : World} {X n : Nat} {v : Value} (h : Bw w X n v) (k : Below w.heap.size w w') : Bw w' X n v := by
  obtain ⟨zs, h⟩ := h
  exact ⟨zs, owns_below h k⟩
theorem Bw.blk {w w' : World} {X n : Nat} {v : Value} (h : Bw w X n v) (hk : ∀ g, v.ownBlock = some g → w'.heap[g]? = w.heap[g]?) : Bw w' X n v := by
  obtain ⟨zs, h⟩ := h
  exact ⟨zs, row_of_block h hk⟩
theorem Bw.lt {w : World} {X n : Nat} {v : Value} (h : Bw w X n v) {g : Nat} (hg : v.ownBlock = some g) : X ≤ g ∧ g < w.heap.size := by
  obtain ⟨zs, h⟩ := h
  exact h.lt g hg
set_option maxHeartbeats 8000000 in
set_option maxRecDepth 100000 in
theorem fresh_any {w : World} {q : Option Addr} {m c : Nat} {S : Nat → Sr} {D : Nat → List Int} (h : Arg w q m c S D) (hL : Laid w) (en : Int) (he : 0 ≤ en ∧ en < 18446744073709551616) {pB : Option Addr} {nB cB : Nat} {bs : List Int} (hbs : Byt w pB nB cB bs) (hbb : ∀ x ∈ bs, 0 ≤ x ∧ x < 256) (hbn : nB < 140737488355000) :
    Calls Tryd.prog 4 #[.agg #[.int .u64 en, .slice q m c], .slice pB nB cB] w fun e w' => e = .returned (.bool true) ∧ Below w.heap.size w w' := by
  have HA : Hid (Arg w q m c S D) := h
  have HL : Hid (Laid w) := hL
  have HEn : Hid (0 ≤ en ∧ en < 18446744073709551616) := he
  have HBs : Hid (Byt w pB nB cB bs) := hbs
  have hcB : nB ≤ cB ∧ cB ≤ 9223372036854775807 := ⟨hbs.2.1, hbs.2.2.1⟩
  obtain ⟨Bf, hBf⟩ : ∃ f : Nat → Int, f = fun i => bs.getD i 0 := ⟨_, rfl⟩
  have HBf : Hid (Bf = fun i => bs.getD i 0) := hBf
  have HBd : Hid (∀ k, 0 ≤ Bf k ∧ Bf k < 256) := fun k => by
    rw [HBf.out]
    show 0 ≤ bs.getD k 0 ∧ bs.getD k 0 < 256
    rw [List.getD_eq_getElem?_getD]
    cases hk : bs[k]? with
    | none => exact ⟨by decide, by decide⟩
    | some x => exact hbb x (List.mem_of_getElem? hk)
  obtain ⟨ha, hr, hH⟩ := hd_ex Bf
  have HH : Hid (Hd Bf ha hr) := hH
  clear h hL he hbs hBf hbb hH
  have HB : Hid (Below w.heap.size w (w.alloc (.cells #[.int .u64 en, .slice q m c] 25))) := (Below.refl _ _).alloc (Nat.le_refl _) _
  have HCe : Hid (Cl2 (w.alloc (.cells #[.int .u64 en, .slice q m c] 25)) w.heap.size (.int .u64 en) (.slice q m c)) := cl2_new _ _ _ _
  go_enter Tryd.func4, Tryd.ntmps4
  go_upto_region 1 with fail
  generalize (w.alloc (.cells #[.int .u64 en, .slice q m c] 25)) = W0 at *
  have c5 := few_any (HA.out.below HB.out) en
  have xe0 := HCe.out.1
  have xe1 := HCe.out.2.1
  go_wp2_with fail
  refine c5.mono ?_
  rintro _ W1 ⟨rfl, hb1⟩
  clear xe0 xe1
  replace HCe := Hid.mk' (HCe.out.below hb1)
  replace HB := Hid.mk' (HB.out.trans (hb1.mono HB.out.size))
  have HS1 : Hid (w.heap.size ≤ W1.heap.size) := HB.out.size
  clear c5 hb1 W0
  have xe0 := HCe.out.1
  have xe1 := HCe.out.2.1
  by_cases hf : sumN S m ≤ 400000 ∧ m ≤ 1000
  rotate_left
  · rw [decide_eq_false hf]
    go_wp2_with fail
    go_ret
    exact ⟨rfl, HB.out⟩
  rw [decide_eq_true hf]
  by_cases hbig : 400000 < nB
  · have hbi : (400000 : Int) < nB := by omega
    go_wp2_with fail
    go_ret
    exact ⟨rfl, HB.out⟩
  have hbi : ¬ (400000 : Int) < nB := by omega
  have HF : Hid (sumN S m ≤ 400000 ∧ m ≤ 1000) := hf
  have HZ : Hid (∀ i, i < m → (S i).n ≤ 400000) := fun i hi => Nat.le_trans (sum_one m (Nat.le_refl _) i hi) HF.out.1
  clear hf
  have HG : Hid (∀ (i : Nat) (s : Sg), (sgsG S m)[i]? = some s → s.va = (S i).va ∧ s.fl = (S i).fl ∧ s.mem = (S i).mem ∧ s.sz = (S i).n ∧ byt (datB D m) s = D i) := fun i s hs => by
    have e := (sgsG_get hs).2
    refine ⟨?_, ?_, ?_, ?_, datB_byt (fun i hi => (HA.out.dat i hi).1) hs⟩ <;> rw [e]
  dsimp only
  go_upto_region 3 with fail
  have c6 := twin2_any (HA.out.below HB.out) HF.out.2 HF.out.1 en (sgsG S m) (datB D m) sgsG_len HG.out
  go_wp2_with fail
  refine c6.mono ?_
  rintro _ W2 ⟨sv2, E, rfl, own2, dat2, ln2, gs2, hb2⟩
  have HSa2 : Hid (W1.heap.size ≤ W2.heap.size) := hb2.size
  clear xe0 xe1
  replace HCe := Hid.mk' (HCe.out.below hb2)
  replace HB := Hid.mk' (HB.out.trans (hb2.mono HB.out.size))
  have hcp2 := cp_new HA.out HF.out.1 own2 ln2 gs2
  have c7 := writeX_any hcp2.prs (by rw [hcp2.len]; exact HF.out.2) (by rw [gs2]; exact plc_sgs) (HL.out.below HB.out) en HEn.out
  have HGs2 : Hid (E.map (·.1) = sgsG S m) := gs2
  clear own2 dat2 ln2 gs2 hb2 c6 hcp2
  dsimp only
  have xe0 := HCe.out.1
  have xe1 := HCe.out.2.1
  go_wp2_with fail
  refine c7.mono ?_
  rintro eW3 W3 hP
  obtain ⟨hb, px, nx, cx, vx, rfl⟩ := wx_form hP
  have HXx : Hid (WxP W2 E (datB D m) en (.returned (.tuple #[.slice px nx cx, vx])) W3) := hP
  have HOx : Hid (Bw W3 W2.heap.size nx (.slice px nx cx)) := wx_own hP
  have HSb2 : Hid (W2.heap.size ≤ W3.heap.size) := hb.size
  clear xe0 xe1
  replace HCe := Hid.mk' (HCe.out.below hb)
  replace HB := Hid.mk' (HB.out.trans (hb.mono HB.out.size))
  have HUx0 : Hid (∀ g, Value.ownBlock (.slice px nx cx) = some g → W2.heap.size ≤ g ∧ g < W3.heap.size) := fun g hg => HOx.out.lt hg
  clear hb hP c7
  dsimp only
  have xe0 := HCe.out.1
  have xe1 := HCe.out.2.1
  have HT : Hid (Below W3.heap.size W3 W3) := Below.refl _ _
  go_upto_region 4 with fail
  have c6 := twin2_any (HA.out.below HB.out) HF.out.2 HF.out.1 en (sgsG S m) (datB D m) sgsG_len HG.out
  go_wp2_with fail
  refine c6.mono ?_
  rintro _ W4 ⟨sv4, F, rfl, own4, dat4, ln4, gs4, hb4⟩
  have HSa4 : Hid (W3.heap.size ≤ W4.heap.size) := hb4.size
  clear xe0 xe1
  replace HCe := Hid.mk' (HCe.out.below hb4)
  replace HOx := Hid.mk' (HOx.out.below hb4)
  replace HB := Hid.mk' (HB.out.trans (hb4.mono HB.out.size))
  replace HT := Hid.mk' (HT.out.trans (hb4.mono HT.out.size))
  have hcp4 := cp_new HA.out HF.out.1 own4 ln4 gs4
  have c7 := writeX_any hcp4.prs (by rw [hcp4.len]; exact HF.out.2) (by rw [gs4]; exact plc_sgs) (HL.out.below HB.out) en HEn.out
  have HGs4 : Hid (F.map (·.1) = sgsG S m) := gs4
  clear own4 dat4 ln4 gs4 hb4 c6 hcp4
  dsimp only
  have xe0 := HCe.out.1
  have xe1 := HCe.out.2.1
  go_wp2_with fail
  refine c7.mono ?_
  rintro eW5 W5 hP
  obtain ⟨hb, py, ny, cy, vy, rfl⟩ := wx_form hP
  have HXy : Hid (WxP W4 F (datB D m) en (.returned (.tuple #[.slice py ny cy, vy])) W5) := hP
  have HOy : Hid (Bw W5 W4.heap.size ny (.slice py ny cy)) := wx_own hP
  have HSb4 : Hid (W4.heap.size ≤ W5.heap.size) := hb.size
  clear xe0 xe1
  replace HCe := Hid.mk' (HCe.out.below hb)
  replace HOx := Hid.mk' (HOx.out.below hb)
  replace HB := Hid.mk' (HB.out.trans (hb.mono HB.out.size))
  replace HT := Hid.mk' (HT.out.trans (hb.mono HT.out.size))
  have HUy0 : Hid (∀ g, Value.ownBlock (.slice py ny cy) = some g → W4.heap.size ≤ g ∧ g < W5.heap.size) := fun g hg => HOy.out.lt hg
  clear hb hP c7
  dsimp only
  have xe0 := HCe.out.1
  have xe1 := HCe.out.2.1
  go_upto_region 5 with fail
  have c8 := writeQ_any (HA.out.below HB.out) HZ.out en HEn.out
  go_wp2_with fail
  refine c8.mono ?_
  rintro e6 W6 hP6
  obtain ⟨hb6, pw, nw, cw, fp, fn, fc, r1, rfl⟩ := wq_form hP6
  obtain ⟨hnn, hn4, ⟨a1, her1, hrr1⟩, ⟨xs, hyx, hyw⟩, -, -⟩ := wr_both HGs2.out HXx.out hP6
  obtain ⟨hnn2, -, ⟨a2, her2, hrr2⟩, ⟨ys, hyy, hyw2⟩, -, -⟩ := wr_both HGs4.out HXy.out hP6
  subst hnn
  have hnn3 := hnn2.symm
  subst hnn3
  have HSc : Hid (W5.heap.size ≤ W6.heap.size) := hb6.size
  have bX : Below W3.heap.size W3 W6 := HT.out.trans (hb6.mono HT.out.size)
  have HUx : Hid (∀ g, Value.ownBlock (.slice px nx cx) = some g → W2.heap.size ≤ g ∧ g < W3.heap.size) := HUx0.out
  have HUy : Hid (∀ g, Value.ownBlock (.slice py nx cy) = some g → W4.heap.size ≤ g ∧ g < W5.heap.size) := HUy0.out
  have HLx : Hid (∀ b o, px = some ⟨b, o, .none⟩ → nx ≠ 0 → b < W6.heap.size) := fun b o e hn => byt_lt (hyx.below bX) (by omega) b o e
  have HLy : Hid (∀ b o, py = some ⟨b, o, .none⟩ → nx ≠ 0 → b < W6.heap.size) := fun b o e hn => byt_lt (hyy.below hb6) (by omega) b o e
  have HLw : Hid (∀ b o, pw = some ⟨b, o, .none⟩ → nx ≠ 0 → b < W6.heap.size) := fun b o e hn => byt_lt hyw (by omega) b o e
  have HE1 : Hid (ErrR W6 vx a1 r1) := her1.below bX
  have HE2 : Hid (ErrR W6 vy a2 r1) := her2.below hb6
  have HR1 : Hid (RefR W6 (.agg #[.slice fp fn fc, .int .i64 r1]) a1 r1) := hrr1
  have HR2 : Hid (RefR W6 (.agg #[.slice fp fn fc, .int .i64 r1]) a2 r1) := hrr2
  have HYx : Hid (Byt W6 px nx cx xs) := hyx.below bX
  have HYy : Hid (Byt W6 py nx cy ys) := hyy.below hb6
  have HYw : Hid (Byt W6 pw nx cw xs) := hyw
  have HYv : Hid (Byt W6 pw nx cw ys) := hyw2
  have HNx : Hid (nx ≤ 262144) := hn4
  clear xe0 xe1
  replace HOx := Hid.mk' (HOx.out.below hb6)
  replace HOy := Hid.mk' (HOy.out.below hb6)
  replace HB := Hid.mk' (HB.out.trans (hb6.mono HB.out.size))
  clear hb6 hP6 c8 her1 her2 hrr1 hrr2 hyx hyy hyw hyw2 hn4 HXx HXy bX HCe HGs2 HGs4 HG HT HUx0 HUy0
  dsimp only
  go_upto_region 6 with fail
  have hb7 : Below W6.heap.size W6 (W6.alloc (.cells #[.slice fp fn fc, .int .i64 r1] 35)) := (Below.refl _ _).alloc (Nat.le_refl _) _
  have HCf : Hid (Cl2 (W6.alloc (.cells #[.slice fp fn fc, .int .i64 r1] 35)) W6.heap.size (.slice fp fn fc) (.int .i64 r1)) := cl2_new _ _ _ _
  replace HOx := Hid.mk' (HOx.out.below hb7)
  replace HOy := Hid.mk' (HOy.out.below hb7)
  replace HE1 := Hid.mk' (HE1.out.below hb7)
  replace HE2 := Hid.mk' (HE2.out.below hb7)
  replace HR1 := Hid.mk' (HR1.out.below hb7)
  replace HR2 := Hid.mk' (HR2.out.below hb7)
  replace HYx := Hid.mk' (HYx.out.below hb7)
  replace HYy := Hid.mk' (HYy.out.below hb7)
  replace HYw := Hid.mk' (HYw.out.below hb7)
  replace HYv := Hid.mk' (HYv.out.below hb7)
  replace HB := Hid.mk' (HB.out.trans (hb7.mono HB.out.size))
  clear hb7
  generalize (W6.alloc (.cells #[.slice fp fn fc, .int .i64 r1] 35)) = W7 at *
  have HSd : Hid (W6.heap.size < W7.heap.size) := HCf.out.lt
  have c15 := lend_any (HBs.out.below HB.out) hbn
  have xf0 := HCf.out.1
  have xf1 := HCf.out.2.1
  go_wp2_with fail
  refine c15.mono ?_
  rintro _ W8 ⟨g, cg, rfl, hLn, hb8⟩
  have HLn : Hid (Lent W8 W7.heap.size g cg bs) := hLn
  have HLl : Hid (bs.length = nB) := HBs.out.1
  have HRo : Hid (Row W8 g 0 nB Bf) := by
    have := lent_row hLn
    rw [HLl.out] at this
    rw [HBf.out]
    exact this
  have hcg : nB ≤ cg ∧ cg ≤ 9223372036854775807 := by
    have h1 := own_cap hLn
    have h2 := HLl.out
    exact ⟨by omega, h1.2⟩
  have HSe : Hid (W7.heap.size ≤ g ∧ g < W8.heap.size) := ⟨own_block hLn g rfl, own_lt hLn⟩
  clear xf0 xf1
  replace HCf := Hid.mk' (HCf.out.below hb8)
  replace HOx := Hid.mk' (HOx.out.below hb8)
  replace HOy := Hid.mk' (HOy.out.below hb8)
  replace HE1 := Hid.mk' (HE1.out.below hb8)
  replace HE2 := Hid.mk' (HE2.out.below hb8)
  replace HR1 := Hid.mk' (HR1.out.below hb8)
  replace HR2 := Hid.mk' (HR2.out.below hb8)
  replace HYx := Hid.mk' (HYx.out.below hb8)
  replace HYy := Hid.mk' (HYy.out.below hb8)
  replace HYw := Hid.mk' (HYw.out.below hb8)
  replace HYv := Hid.mk' (HYv.out.below hb8)
  replace HB := Hid.mk' (HB.out.trans (hb8.mono HB.out.size))
  clear hb8 hLn c15
  dsimp only
  have xf0 := HCf.out.1
  have xf1 := HCf.out.2.1
  go_upto_region 7 with fail
  have HG8 : Hid (W8.heap.size ≤ W8.heap.size) := Nat.le_refl _
  have c16 := read_one (HL.out.below HB.out) HRo.out (Nat.lt_of_lt_of_le HSe.out.2 HG8.out) HBd.out hcg ha hr HH.out
  go_wp2_with fail
  refine c16.mono ?_
  rintro _ W9 ⟨sp, Ep, vp, rfl, her, hsg, hmp, hl8, hup, hb9⟩
  obtain ⟨qp, cp, rfl, -⟩ := own_form hsg.own
  have HEp : Hid (ErrR W9 vp (rdF nB Bf ha hr).1.1 (rdF nB Bf ha hr).1.2) := her
  have HGp : Hid (Segs W9 W8.heap.size (.slice qp Ep.length cp) Ep Bf) := hsg
  have HG0p : Hid (Segs W9 W8.heap.size (.slice qp Ep.length cp) Ep Bf) := hsg
  have HMp : Hid (Ep.map (·.1) = lsF nB Bf ha hr) := hmp
  have HLp : Hid (Ep.length ≤ 8) := hl8
  have HUp : Hid (Ups Ep) := hup
  have HSp : Hid (W8.heap.size ≤ W9.heap.size) := hb9.size
  clear xf0 xf1
  replace HCf := Hid.mk' (HCf.out.below hb9)
  replace HOx := Hid.mk' (HOx.out.below hb9)
  replace HOy := Hid.mk' (HOy.out.below hb9)
  replace HE1 := Hid.mk' (HE1.out.below hb9)
  replace HE2 := Hid.mk' (HE2.out.below hb9)
  replace HR1 := Hid.mk' (HR1.out.below hb9)
  replace HR2 := Hid.mk' (HR2.out.below hb9)
  replace HYx := Hid.mk' (HYx.out.below hb9)
  replace HYy := Hid.mk' (HYy.out.below hb9)
  replace HYw := Hid.mk' (HYw.out.below hb9)
  replace HYv := Hid.mk' (HYv.out.below hb9)
  replace HB := Hid.mk' (HB.out.trans (hb9.mono HB.out.size))
  replace HRo := Hid.mk' (HRo.out.belowF hb9)
  replace HLn := Hid.mk' (HLn.out.below hb9)
  clear her hsg hmp hl8 hup hb9 c16
  dsimp only
  have xf0 := HCf.out.1
  have xf1 := HCf.out.2.1
  go_upto_region 8 with fail
  clear xf0 xf1
  have hb10 : Below W9.heap.size W9 (W9.alloc (.cells #[.int .u64 (enF nB Bf ha hr), .slice qp Ep.length cp] 25)) := (Below.refl _ _).alloc (Nat.le_refl _) _
  have HCp : Hid (Cl2 (W9.alloc (.cells #[.int .u64 (enF nB Bf ha hr), .slice qp Ep.length cp] 25)) W9.heap.size (.int .u64 (enF nB Bf ha hr)) (.slice qp Ep.length cp)) := cl2_new _ _ _ _
  replace HCf := Hid.mk' (HCf.out.below hb10)
  replace HOx := Hid.mk' (HOx.out.below hb10)
  replace HOy := Hid.mk' (HOy.out.below hb10)
  replace HE1 := Hid.mk' (HE1.out.below hb10)
  replace HE2 := Hid.mk' (HE2.out.below hb10)
  replace HR1 := Hid.mk' (HR1.out.below hb10)
  replace HR2 := Hid.mk' (HR2.out.below hb10)
  replace HYx := Hid.mk' (HYx.out.below hb10)
  replace HYy := Hid.mk' (HYy.out.below hb10)
  replace HYw := Hid.mk' (HYw.out.below hb10)
  replace HYv := Hid.mk' (HYv.out.below hb10)
  replace HEp := Hid.mk' (HEp.out.below hb10)
  replace HGp := Hid.mk' (HGp.out.below hb10)
  replace HB := Hid.mk' (HB.out.trans (hb10.mono HB.out.size))
  replace HRo := Hid.mk' (HRo.out.belowF hb10)
  replace HLn := Hid.mk' (HLn.out.below hb10)
  clear hb10
  generalize (W9.alloc (.cells #[.int .u64 (enF nB Bf ha hr), .slice qp Ep.length cp] 25)) = W10 at *
  have HTp : Hid (W9.heap.size < W10.heap.size) := HCp.out.lt
  have HG10 : Hid (W8.heap.size ≤ W10.heap.size) := Nat.le_trans HSp.out (Nat.le_of_lt HTp.out)
  have xf0 := HCf.out.1
  have xf1 := HCf.out.2.1
  have xp0 := HCp.out.1
  have xp1 := HCp.out.2.1
  have c16 := read_one (HL.out.below HB.out) HRo.out (Nat.lt_of_lt_of_le HSe.out.2 HG10.out) HBd.out hcg ha hr HH.out
  go_wp2_with fail
  refine c16.mono ?_
  rintro _ W11 ⟨sq, Eq, vq, rfl, her, hsg, hmq, hl8, hup, hb9⟩
  obtain ⟨qq, cq, rfl, -⟩ := own_form hsg.own
  have HEq : Hid (ErrR W11 vq (rdF nB Bf ha hr).1.1 (rdF nB Bf ha hr).1.2) := her
  have HGq : Hid (Segs W11 W10.heap.size (.slice qq Eq.length cq) Eq Bf) := hsg
  have HG0q : Hid (Segs W11 W10.heap.size (.slice qq Eq.length cq) Eq Bf) := hsg
  have HMq : Hid (Eq.map (·.1) = lsF nB Bf ha hr) := hmq
  have HLq : Hid (Eq.length ≤ 8) := hl8
  have HUq : Hid (Ups Eq) := hup
  have HSq : Hid (W10.heap.size ≤ W11.heap.size) := hb9.size
  clear xf0 xf1 xp0 xp1
  replace HCf := Hid.mk' (HCf.out.below hb9)
  replace HOx := Hid.mk' (HOx.out.below hb9)
  replace HOy := Hid.mk' (HOy.out.below hb9)
  replace HE1 := Hid.mk' (HE1.out.below hb9)
  replace HE2 := Hid.mk' (HE2.out.below hb9)
  replace HR1 := Hid.mk' (HR1.out.below hb9)
  replace HR2 := Hid.mk' (HR2.out.below hb9)
  replace HYx := Hid.mk' (HYx.out.below hb9)
  replace HYy := Hid.mk' (HYy.out.below hb9)
  replace HYw := Hid.mk' (HYw.out.below hb9)
  replace HYv := Hid.mk' (HYv.out.below hb9)
  replace HCp := Hid.mk' (HCp.out.below hb9)
  replace HEp := Hid.mk' (HEp.out.below hb9)
  replace HGp := Hid.mk' (HGp.out.below hb9)
  replace HB := Hid.mk' (HB.out.trans (hb9.mono HB.out.size))
  replace HRo := Hid.mk' (HRo.out.belowF hb9)
  replace HLn := Hid.mk' (HLn.out.below hb9)
  clear her hsg hmq hl8 hup hb9 c16
  dsimp only
  have xf0 := HCf.out.1
  have xf1 := HCf.out.2.1
  have xp0 := HCp.out.1
  have xp1 := HCp.out.2.1
  go_upto_region 9 with fail
  clear xf0 xf1 xp0 xp1
  have hb10 : Below W11.heap.size W11 (W11.alloc (.cells #[.int .u64 (enF nB Bf ha hr), .slice qq Eq.length cq] 25)) := (Below.refl _ _).alloc (Nat.le_refl _) _
  have HCq : Hid (Cl2 (W11.alloc (.cells #[.int .u64 (enF nB Bf ha hr), .slice qq Eq.length cq] 25)) W11.heap.size (.int .u64 (enF nB Bf ha hr)) (.slice qq Eq.length cq)) := cl2_new _ _ _ _
  replace HCf := Hid.mk' (HCf.out.below hb10)
  replace HOx := Hid.mk' (HOx.out.below hb10)
  replace HOy := Hid.mk' (HOy.out.below hb10)
  replace HE1 := Hid.mk' (HE1.out.below hb10)
  replace HE2 := Hid.mk' (HE2.out.below hb10)
  replace HR1 := Hid.mk' (HR1.out.below hb10)
  replace HR2 := Hid.mk' (HR2.out.below hb10)
  replace HYx := Hid.mk' (HYx.out.below hb10)
  replace HYy := Hid.mk' (HYy.out.below hb10)
  replace HYw := Hid.mk' (HYw.out.below hb10)
  replace HYv := Hid.mk' (HYv.out.below hb10)
  replace HCp := Hid.mk' (HCp.out.below hb10)
  replace HEp := Hid.mk' (HEp.out.below hb10)
  replace HGp := Hid.mk' (HGp.out.below hb10)
  replace HEq := Hid.mk' (HEq.out.below hb10)
  replace HGq := Hid.mk' (HGq.out.below hb10)
  replace HB := Hid.mk' (HB.out.trans (hb10.mono HB.out.size))
  replace HRo := Hid.mk' (HRo.out.belowF hb10)
  replace HLn := Hid.mk' (HLn.out.below hb10)
  clear hb10
  generalize (W11.alloc (.cells #[.int .u64 (enF nB Bf ha hr), .slice qq Eq.length cq] 25)) = W12 at *
  have HTq : Hid (W11.heap.size < W12.heap.size) := HCq.out.lt
  obtain ⟨b0, o0, hp0, hro0⟩ := byt_row (HBs.out.below HB.out)
  rw [← HBf.out] at hro0
  have c17 := readQ_one hp0 hro0 HBd.out hcB (by omega) ha hr HH.out
  clear hp0 hro0
  have xf0 := HCf.out.1
  have xf1 := HCf.out.2.1
  have xp0 := HCp.out.1
  have xp1 := HCp.out.2.1
  have xq0 := HCq.out.1
  have xq1 := HCq.out.2.1
  go_wp2_with fail
  refine c17.mono ?_
  rintro _ W13 ⟨sr, Er, gp, gn, gc, rfl, hrr, hsr, hmr, hb13⟩
  obtain ⟨qr, cr, rfl, -⟩ := own_form hsr.own
  have HRr : Hid (RefR W13 (.agg #[.slice gp gn gc, .int .i64 (rdF nB Bf ha hr).1.2]) (rdF nB Bf ha hr).1.1 (rdF nB Bf ha hr).1.2) := hrr
  have HGr : Hid (Segs W13 W12.heap.size (.slice qr Er.length cr) Er Bf) := hsr
  have HG0r : Hid (Segs W13 W12.heap.size (.slice qr Er.length cr) Er Bf) := hsr
  have HMr : Hid (Er.map (·.1) = lsF nB Bf ha hr) := hmr
  have HSr : Hid (W12.heap.size ≤ W13.heap.size) := hb13.size
  clear xf0 xf1 xp0 xp1 xq0 xq1
  replace HCf := Hid.mk' (HCf.out.below hb13)
  replace HOx := Hid.mk' (HOx.out.below hb13)
  replace HOy := Hid.mk' (HOy.out.below hb13)
  replace HE1 := Hid.mk' (HE1.out.below hb13)
  replace HE2 := Hid.mk' (HE2.out.below hb13)
  replace HR1 := Hid.mk' (HR1.out.below hb13)
  replace HR2 := Hid.mk' (HR2.out.below hb13)
  replace HYx := Hid.mk' (HYx.out.below hb13)
  replace HYy := Hid.mk' (HYy.out.below hb13)
  replace HYw := Hid.mk' (HYw.out.below hb13)
  replace HYv := Hid.mk' (HYv.out.below hb13)
  replace HCp := Hid.mk' (HCp.out.below hb13)
  replace HEp := Hid.mk' (HEp.out.below hb13)
  replace HGp := Hid.mk' (HGp.out.below hb13)
  replace HCq := Hid.mk' (HCq.out.below hb13)
  replace HEq := Hid.mk' (HEq.out.below hb13)
  replace HGq := Hid.mk' (HGq.out.below hb13)
  replace HB := Hid.mk' (HB.out.trans (hb13.mono HB.out.size))
  replace HLn := Hid.mk' (HLn.out.below hb13)
  clear hrr hsr hmr hb13 c17 HRo
  dsimp only
  have xf0 := HCf.out.1
  have xf1 := HCf.out.2.1
  have xp0 := HCp.out.1
  have xp1 := HCp.out.2.1
  have xq0 := HCq.out.1
  have xq1 := HCq.out.2.1
  go_upto_region 10 with fail
  clear xf0 xf1 xp0 xp1 xq0 xq1
  have hb14 : Below W13.heap.size W13 ((W13.alloc (.cells #[.int .u64 (enF nB Bf ha hr), .slice qr Er.length cr] 25)).alloc (.cells #[.slice gp gn gc, .int .i64 (rdF nB Bf ha hr).1.2] 35)) := ((Below.refl _ _).alloc (Nat.le_refl _) _).alloc (by simp only [World.size_alloc]; omega) _
  have HCr : Hid (Cl2 ((W13.alloc (.cells #[.int .u64 (enF nB Bf ha hr), .slice qr Er.length cr] 25)).alloc (.cells #[.slice gp gn gc, .int .i64 (rdF nB Bf ha hr).1.2] 35)) W13.heap.size (.int .u64 (enF nB Bf ha hr)) (.slice qr Er.length cr)) := (cl2_new W13 _ _ 25).below ((Below.refl _ _).alloc (Nat.le_refl _) _)
  have HCh : Hid (Cl2 ((W13.alloc (.cells #[.int .u64 (enF nB Bf ha hr), .slice qr Er.length cr] 25)).alloc (.cells #[.slice gp gn gc, .int .i64 (rdF nB Bf ha hr).1.2] 35)) (W13.heap.size + 1) (.slice gp gn gc) (.int .i64 (rdF nB Bf ha hr).1.2)) := by
    have := cl2_new (W13.alloc (.cells #[.int .u64 (enF nB Bf ha hr), .slice qr Er.length cr] 25)) (.slice gp gn gc) (.int .i64 (rdF nB Bf ha hr).1.2) 35
    rwa [World.size_alloc] at this
  replace HCf := Hid.mk' (HCf.out.below hb14)
  replace HOx := Hid.mk' (HOx.out.below hb14)
  replace HOy := Hid.mk' (HOy.out.below hb14)
  replace HE1 := Hid.mk' (HE1.out.below hb14)
  replace HE2 := Hid.mk' (HE2.out.below hb14)
  replace HR1 := Hid.mk' (HR1.out.below hb14)
  replace HR2 := Hid.mk' (HR2.out.below hb14)
  replace HYx := Hid.mk' (HYx.out.below hb14)
  replace HYy := Hid.mk' (HYy.out.below hb14)
  replace HYw := Hid.mk' (HYw.out.below hb14)
  replace HYv := Hid.mk' (HYv.out.below hb14)
  replace HCp := Hid.mk' (HCp.out.below hb14)
  replace HEp := Hid.mk' (HEp.out.below hb14)
  replace HGp := Hid.mk' (HGp.out.below hb14)
  replace HCq := Hid.mk' (HCq.out.below hb14)
  replace HEq := Hid.mk' (HEq.out.below hb14)
  replace HGq := Hid.mk' (HGq.out.below hb14)
  replace HRr := Hid.mk' (HRr.out.below hb14)
  replace HGr := Hid.mk' (HGr.out.below hb14)
  replace HB := Hid.mk' (HB.out.trans (hb14.mono HB.out.size))
  replace HLn := Hid.mk' (HLn.out.below hb14)
  clear hb14
  generalize ((W13.alloc (.cells #[.int .u64 (enF nB Bf ha hr), .slice qr Er.length cr] 25)).alloc (.cells #[.slice gp gn gc, .int .i64 (rdF nB Bf ha hr).1.2] 35)) = W14 at *
  have HSz : Hid (w.heap.size ≤ W1.heap.size ∧ W1.heap.size ≤ W2.heap.size ∧ W2.heap.size ≤ W3.heap.size ∧ W3.heap.size ≤ W4.heap.size ∧ W4.heap.size ≤ W5.heap.size ∧ W5.heap.size ≤ W6.heap.size ∧ W6.heap.size < W7.heap.size ∧ W7.heap.size ≤ g ∧ g < W8.heap.size ∧ W8.heap.size ≤ W9.heap.size ∧ W9.heap.size < W10.heap.size ∧ W10.heap.size ≤ W11.heap.size ∧ W11.heap.size < W12.heap.size ∧ W12.heap.size ≤ W13.heap.size) := by
    have h1 := HSa2.out; have h2 := HSb2.out; have h3 := HSa4.out; have h4 := HSb4.out; have h5 := HSc.out; have h6 := HSd.out; have h7 := HSe.out; have h8 := HSp.out; have h9 := HTp.out; have h10 := HSq.out; have h11 := HTq.out; have h12 := HSr.out; have h0 := HS1.out
    exact (by omega : w.heap.size ≤ W1.heap.size ∧ W1.heap.size ≤ W2.heap.size ∧ W2.heap.size ≤ W3.heap.size ∧ W3.heap.size ≤ W4.heap.size ∧ W4.heap.size ≤ W5.heap.size ∧ W5.heap.size ≤ W6.heap.size ∧ W6.heap.size < W7.heap.size ∧ W7.heap.size ≤ g ∧ g < W8.heap.size ∧ W8.heap.size ≤ W9.heap.size ∧ W9.heap.size < W10.heap.size ∧ W10.heap.size ≤ W11.heap.size ∧ W11.heap.size < W12.heap.size ∧ W12.heap.size ≤ W13.heap.size)
  clear HSa2 HSb2 HSa4 HSb4 HSc HSd HSe HSp HTp HSq HTq HSr HS1 HG8 HG10
  have c11 := isR_any vx (.agg #[.slice fp fn fc, .int .i64 r1]) a1 r1 W14 HE1.out HR1.out
  have xf0 := HCf.out.1
  have xf1 := HCf.out.2.1
  have xp0 := HCp.out.1
  have xp1 := HCp.out.2.1
  have xq0 := HCq.out.1
  have xq1 := HCq.out.2.1
  have xr0 := HCr.out.1
  have xr1 := HCr.out.2.1
  have xh0 := HCh.out.1
  have xh1 := HCh.out.2.1
  go_wp2_with fail
  refine c11.mono ?_
  rintro _ W15 ⟨rfl, hb⟩
  clear xf0 xf1 xp0 xp1 xq0 xq1 xr0 xr1 xh0 xh1
  replace HCf := Hid.mk' (HCf.out.below hb)
  replace HOx := Hid.mk' (HOx.out.below hb)
  replace HOy := Hid.mk' (HOy.out.below hb)
  replace HE2 := Hid.mk' (HE2.out.below hb)
  replace HR2 := Hid.mk' (HR2.out.below hb)
  replace HYx := Hid.mk' (HYx.out.below hb)
  replace HYy := Hid.mk' (HYy.out.below hb)
  replace HYw := Hid.mk' (HYw.out.below hb)
  replace HYv := Hid.mk' (HYv.out.below hb)
  replace HCp := Hid.mk' (HCp.out.below hb)
  replace HEp := Hid.mk' (HEp.out.below hb)
  replace HGp := Hid.mk' (HGp.out.below hb)
  replace HCq := Hid.mk' (HCq.out.below hb)
  replace HEq := Hid.mk' (HEq.out.below hb)
  replace HGq := Hid.mk' (HGq.out.below hb)
  replace HRr := Hid.mk' (HRr.out.below hb)
  replace HGr := Hid.mk' (HGr.out.below hb)
  replace HCr := Hid.mk' (HCr.out.below hb)
  replace HCh := Hid.mk' (HCh.out.below hb)
  replace HB := Hid.mk' (HB.out.trans (hb.mono HB.out.size))
  replace HLn := Hid.mk' (HLn.out.below hb)
  clear hb c11 HE1 HR1
  dsimp only
  have c11 := isR_any vy (.agg #[.slice fp fn fc, .int .i64 r1]) a2 r1 W15 HE2.out HR2.out
  have xf0 := HCf.out.1
  have xf1 := HCf.out.2.1
  have xp0 := HCp.out.1
  have xp1 := HCp.out.2.1
  have xq0 := HCq.out.1
  have xq1 := HCq.out.2.1
  have xr0 := HCr.out.1
  have xr1 := HCr.out.2.1
  have xh0 := HCh.out.1
  have xh1 := HCh.out.2.1
  go_wp2_with fail
  refine c11.mono ?_
  rintro _ W16 ⟨rfl, hb⟩
  clear xf0 xf1 xp0 xp1 xq0 xq1 xr0 xr1 xh0 xh1
  replace HCf := Hid.mk' (HCf.out.below hb)
  replace HOx := Hid.mk' (HOx.out.below hb)
  replace HOy := Hid.mk' (HOy.out.below hb)
  replace HYx := Hid.mk' (HYx.out.below hb)
  replace HYy := Hid.mk' (HYy.out.below hb)
  replace HYw := Hid.mk' (HYw.out.below hb)
  replace HYv := Hid.mk' (HYv.out.below hb)
  replace HCp := Hid.mk' (HCp.out.below hb)
  replace HEp := Hid.mk' (HEp.out.below hb)
  replace HGp := Hid.mk' (HGp.out.below hb)
  replace HCq := Hid.mk' (HCq.out.below hb)
  replace HEq := Hid.mk' (HEq.out.below hb)
  replace HGq := Hid.mk' (HGq.out.below hb)
  replace HRr := Hid.mk' (HRr.out.below hb)
  replace HGr := Hid.mk' (HGr.out.below hb)
  replace HCr := Hid.mk' (HCr.out.below hb)
  replace HCh := Hid.mk' (HCh.out.below hb)
  replace HB := Hid.mk' (HB.out.trans (hb.mono HB.out.size))
  replace HLn := Hid.mk' (HLn.out.below hb)
  clear hb c11 HE2 HR2
  dsimp only
  have c11 := isR_any vp (.agg #[.slice gp gn gc, .int .i64 (rdF nB Bf ha hr).1.2]) (rdF nB Bf ha hr).1.1 (rdF nB Bf ha hr).1.2 W16 HEp.out HRr.out
  have xf0 := HCf.out.1
  have xf1 := HCf.out.2.1
  have xp0 := HCp.out.1
  have xp1 := HCp.out.2.1
  have xq0 := HCq.out.1
  have xq1 := HCq.out.2.1
  have xr0 := HCr.out.1
  have xr1 := HCr.out.2.1
  have xh0 := HCh.out.1
  have xh1 := HCh.out.2.1
  go_wp2_with fail
  refine c11.mono ?_
  rintro _ W17 ⟨rfl, hb⟩
  clear xf0 xf1 xp0 xp1 xq0 xq1 xr0 xr1 xh0 xh1
  replace HCf := Hid.mk' (HCf.out.below hb)
  replace HOx := Hid.mk' (HOx.out.below hb)
  replace HOy := Hid.mk' (HOy.out.below hb)
  replace HYx := Hid.mk' (HYx.out.below hb)
  replace HYy := Hid.mk' (HYy.out.below hb)
  replace HYw := Hid.mk' (HYw.out.below hb)
  replace HYv := Hid.mk' (HYv.out.below hb)
  replace HCp := Hid.mk' (HCp.out.below hb)
  replace HGp := Hid.mk' (HGp.out.below hb)
  replace HCq := Hid.mk' (HCq.out.below hb)
  replace HEq := Hid.mk' (HEq.out.below hb)
  replace HGq := Hid.mk' (HGq.out.below hb)
  replace HRr := Hid.mk' (HRr.out.below hb)
  replace HGr := Hid.mk' (HGr.out.below hb)
  replace HCr := Hid.mk' (HCr.out.below hb)
  replace HCh := Hid.mk' (HCh.out.below hb)
  replace HB := Hid.mk' (HB.out.trans (hb.mono HB.out.size))
  replace HLn := Hid.mk' (HLn.out.below hb)
  clear hb c11 HEp
  dsimp only
  have c11 := isR_any vq (.agg #[.slice gp gn gc, .int .i64 (rdF nB Bf ha hr).1.2]) (rdF nB Bf ha hr).1.1 (rdF nB Bf ha hr).1.2 W17 HEq.out HRr.out
  have xf0 := HCf.out.1
  have xf1 := HCf.out.2.1
  have xp0 := HCp.out.1
  have xp1 := HCp.out.2.1
  have xq0 := HCq.out.1
  have xq1 := HCq.out.2.1
  have xr0 := HCr.out.1
  have xr1 := HCr.out.2.1
  have xh0 := HCh.out.1
  have xh1 := HCh.out.2.1
  go_wp2_with fail
  refine c11.mono ?_
  rintro _ W18 ⟨rfl, hb⟩
  clear xf0 xf1 xp0 xp1 xq0 xq1 xr0 xr1 xh0 xh1
  replace HOx := Hid.mk' (HOx.out.below hb)
  replace HOy := Hid.mk' (HOy.out.below hb)
  replace HYx := Hid.mk' (HYx.out.below hb)
  replace HYy := Hid.mk' (HYy.out.below hb)
  replace HYw := Hid.mk' (HYw.out.below hb)
  replace HYv := Hid.mk' (HYv.out.below hb)
  replace HCp := Hid.mk' (HCp.out.below hb)
  replace HGp := Hid.mk' (HGp.out.below hb)
  replace HCq := Hid.mk' (HCq.out.below hb)
  replace HGq := Hid.mk' (HGq.out.below hb)
  replace HGr := Hid.mk' (HGr.out.below hb)
  replace HCr := Hid.mk' (HCr.out.below hb)
  replace HB := Hid.mk' (HB.out.trans (hb.mono HB.out.size))
  replace HLn := Hid.mk' (HLn.out.below hb)
  clear hb c11 HEq HRr HCh HCf
  dsimp only
  have xp0 := HCp.out.1
  have xp1 := HCp.out.2.1
  have xq0 := HCq.out.1
  have xq1 := HCq.out.2.1
  have xr0 := HCr.out.1
  have xr1 := HCr.out.2.1
  go_wp2_with fail
  clear xp0 xp1 xq0 xq1 xr0 xr1
  have HI0 : Hid (Below w.heap.size w W18 ∧ (∀ k, k ≠ g → W18.heap[k]? = W18.heap[k]?) ∧ Bw W18 W7.heap.size (nB + 64) (.slice (some ⟨g, 0, .none⟩) (nB + 64) cg)) := ⟨HB.out, fun _ _ => rfl, ⟨_, by have h7 := HLn.out; unfold Lent at h7; rw [HLl.out] at h7; exact h7⟩⟩
  clear HLn HB
  go_loopw [18] (fun a wr => ∃ i : Nat, i ≤ nB ∧ a = .int .i64 i ∧ Hid (Below w.heap.size w wr ∧ (∀ k, k ≠ g → wr.heap[k]? = W18.heap[k]?) ∧ Bw wr W7.heap.size (nB + 64) (.slice (some ⟨g, 0, .none⟩) (nB + 64) cg))) (fun a _ => (nB - intOf a).toNat)
  case atStart => exact ⟨0, by omega, rfl, HI0⟩
  case round =>
    obtain ⟨i, hi, rfl, HR⟩ := hrel
    by_cases hlt : i < nB
    · have g0 : (i : Int) < nB := by omega
      obtain ⟨zs, hzs⟩ := HR.out.2.2
      have hzl : zs.length = nB + 64 := by have := hzs.1; omega
      have x0 : wr.cell? ⟨g, i, .none⟩ = some (zs[i]'(by omega)) := (World.ownsRow.cellAt hzs i (by omega)).trans (List.getElem?_eq_getElem _)
      have z0 : wr.frozen? ⟨g, i, .none⟩ = false := hzs.frozenAt i
      have HN : Hid (Below w.heap.size w (wr.setCell ⟨g, i, .none⟩ (.int .u8 85)) ∧ (∀ k, k ≠ g → (wr.setCell ⟨g, i, .none⟩ (.int .u8 85)).heap[k]? = W18.heap[k]?) ∧ Bw (wr.setCell ⟨g, i, .none⟩ (.int .u8 85)) W7.heap.size (nB + 64) (.slice (some ⟨g, 0, .none⟩) (nB + 64) cg)) :=
        ⟨HR.out.1.setCell (p := ⟨g, i, .none⟩) (by have := HSz.out; show w.heap.size ≤ g; omega) _, fun k hk => (heap_setCell_other wr ⟨g, i, .none⟩ k _ hk).trans (HR.out.2.1 k hk), _, (World.ownsRow.stored hzs i _).1⟩
      generalize zs[i]'(by omega) = z at *
      clear hzs hzl HR
      go_wp2_with fail
      exact ⟨⟨i + 1, by omega, by simp, HN⟩, by simp [intOf]; omega⟩
    · have hn : ¬ ((i : Int) < nB) := by omega
      obtain ⟨HB0, oth, _⟩ := HR.out
      have HB : Hid (Below w.heap.size w wr) := HB0
      have sz := HSz.out
      replace HCp := Hid.mk' (HCp.out.blk (oth _ (by omega)))
      replace HCq := Hid.mk' (HCq.out.blk (oth _ (by omega)))
      replace HCr := Hid.mk' (HCr.out.blk (oth _ (by omega)))
      replace HYx := Hid.mk' (byt_move HYx.out (fun b o e hn => oth b (by have := HLx.out b o e hn; omega)))
      replace HYy := Hid.mk' (byt_move HYy.out (fun b o e hn => oth b (by have := HLy.out b o e hn; omega)))
      replace HYw := Hid.mk' (byt_move HYw.out (fun b o e hn => oth b (by have := HLw.out b o e hn; omega)))
      replace HYv := Hid.mk' (byt_move HYv.out (fun b o e hn => oth b (by have := HLw.out b o e hn; omega)))
      replace HOx := Hid.mk' (HOx.out.blk (fun k hk => oth k (by have := HUx.out k hk; omega)))
      replace HOy := Hid.mk' (HOy.out.blk (fun k hk => oth k (by have := HUy.out k hk; omega)))
      replace HGp := Hid.mk' (HGp.out.move HG0p.out (fun k h1 h2 => oth k (by omega)))
      replace HGq := Hid.mk' (HGq.out.move HG0q.out (fun k h1 h2 => oth k (by omega)))
      replace HGr := Hid.mk' (HGr.out.move HG0r.out (fun k h1 h2 => oth k (by omega)))
      clear HB0 oth sz HR HI0
      obtain ⟨W19, hW19⟩ : ∃ u, u = wr := ⟨_, rfl⟩
      subst hW19
      have HX9 : Hid True := trivial
      have c11 := same_rr HGp.out HGr.out HBd.out HMp.out HMr.out (lsF_sz nB Bf ha hr) HLp.out (enF nB Bf ha hr)
      have xp0 := HCp.out.1
      have xp1 := HCp.out.2.1
      have xq0 := HCq.out.1
      have xq1 := HCq.out.2.1
      have xr0 := HCr.out.1
      have xr1 := HCr.out.2.1
      go_wp2_with fail
      refine c11.mono ?_
      rintro _ W20 ⟨rfl, hb⟩
      clear xp0 xp1 xq0 xq1 xr0 xr1
      replace HCp := Hid.mk' (HCp.out.below hb)
      replace HCq := Hid.mk' (HCq.out.below hb)
      replace HCr := Hid.mk' (HCr.out.below hb)
      replace HYx := Hid.mk' (HYx.out.below hb)
      replace HYy := Hid.mk' (HYy.out.below hb)
      replace HYw := Hid.mk' (HYw.out.below hb)
      replace HYv := Hid.mk' (HYv.out.below hb)
      replace HOx := Hid.mk' (HOx.out.below hb)
      replace HOy := Hid.mk' (HOy.out.below hb)
      replace HGp := Hid.mk' (HGp.out.below hb)
      replace HGq := Hid.mk' (HGq.out.below hb)
      replace HGr := Hid.mk' (HGr.out.below hb)
      replace HB := Hid.mk' (HB.out.trans (hb.mono HB.out.size))
      clear hb c11
      dsimp only
      have c11 := same_rr HGq.out HGr.out HBd.out HMq.out HMr.out (lsF_sz nB Bf ha hr) HLq.out (enF nB Bf ha hr)
      have xp0 := HCp.out.1
      have xp1 := HCp.out.2.1
      have xq0 := HCq.out.1
      have xq1 := HCq.out.2.1
      have xr0 := HCr.out.1
      have xr1 := HCr.out.2.1
      go_wp2_with fail
      refine c11.mono ?_
      rintro _ W21 ⟨rfl, hb⟩
      clear xp0 xp1 xq0 xq1 xr0 xr1
      replace HCp := Hid.mk' (HCp.out.below hb)
      replace HCq := Hid.mk' (HCq.out.below hb)
      replace HCr := Hid.mk' (HCr.out.below hb)
      replace HYx := Hid.mk' (HYx.out.below hb)
      replace HYy := Hid.mk' (HYy.out.below hb)
      replace HYw := Hid.mk' (HYw.out.below hb)
      replace HYv := Hid.mk' (HYv.out.below hb)
      replace HOx := Hid.mk' (HOx.out.below hb)
      replace HOy := Hid.mk' (HOy.out.below hb)
      replace HGp := Hid.mk' (HGp.out.below hb)
      replace HGq := Hid.mk' (HGq.out.below hb)
      replace HGr := Hid.mk' (HGr.out.below hb)
      replace HB := Hid.mk' (HB.out.trans (hb.mono HB.out.size))
      clear hb c11
      dsimp only
      have c11 := bytesB_any (by have := HNx.out; omega) HYx.out HYw.out
      have xp0 := HCp.out.1
      have xp1 := HCp.out.2.1
      have xq0 := HCq.out.1
      have xq1 := HCq.out.2.1
      have xr0 := HCr.out.1
      have xr1 := HCr.out.2.1
      go_wp2_with fail
      refine c11.mono ?_
      rintro _ W22 ⟨rfl, hb⟩
      clear xp0 xp1 xq0 xq1 xr0 xr1
      replace HCp := Hid.mk' (HCp.out.below hb)
      replace HCq := Hid.mk' (HCq.out.below hb)
      replace HCr := Hid.mk' (HCr.out.below hb)
      replace HYx := Hid.mk' (HYx.out.below hb)
      replace HYy := Hid.mk' (HYy.out.below hb)
      replace HYw := Hid.mk' (HYw.out.below hb)
      replace HYv := Hid.mk' (HYv.out.below hb)
      replace HOx := Hid.mk' (HOx.out.below hb)
      replace HOy := Hid.mk' (HOy.out.below hb)
      replace HGp := Hid.mk' (HGp.out.below hb)
      replace HGq := Hid.mk' (HGq.out.below hb)
      replace HGr := Hid.mk' (HGr.out.below hb)
      replace HB := Hid.mk' (HB.out.trans (hb.mono HB.out.size))
      clear hb c11
      dsimp only
      have c11 := bytesB_any (by have := HNx.out; omega) HYy.out HYv.out
      have xp0 := HCp.out.1
      have xp1 := HCp.out.2.1
      have xq0 := HCq.out.1
      have xq1 := HCq.out.2.1
      have xr0 := HCr.out.1
      have xr1 := HCr.out.2.1
      go_wp2_with fail
      refine c11.mono ?_
      rintro _ W23 ⟨rfl, hb⟩
      clear xp0 xp1 xq0 xq1 xr0 xr1
      replace HCp := Hid.mk' (HCp.out.below hb)
      replace HCq := Hid.mk' (HCq.out.below hb)
      replace HCr := Hid.mk' (HCr.out.below hb)
      replace HYx := Hid.mk' (HYx.out.below hb)
      replace HYy := Hid.mk' (HYy.out.below hb)
      replace HYw := Hid.mk' (HYw.out.below hb)
      replace HYv := Hid.mk' (HYv.out.below hb)
      replace HOx := Hid.mk' (HOx.out.below hb)
      replace HOy := Hid.mk' (HOy.out.below hb)
      replace HGp := Hid.mk' (HGp.out.below hb)
      replace HGq := Hid.mk' (HGq.out.below hb)
      replace HGr := Hid.mk' (HGr.out.below hb)
      replace HB := Hid.mk' (HB.out.trans (hb.mono HB.out.size))
      clear hb c11
      dsimp only
      have xp0 := HCp.out.1
      have xp1 := HCp.out.2.1
      have xq0 := HCq.out.1
      have xq1 := HCq.out.2.1
      have xr0 := HCr.out.1
      have xr1 := HCr.out.2.1
      go_upto_region 19 with fail
      clear xp0 xp1 xq0 xq1 xr0 xr1
      have HLv : Hid ((W23.alloc (.cells #[.slice px nx cx, .slice py nx cy] 28)).ownsRow W23.heap.size 28 1 (.slice (some ⟨W23.heap.size, 0, .none⟩) 2 2) 2 [.slice px nx cx, .slice py nx cy] ∧ Below W23.heap.size W23 (W23.alloc (.cells #[.slice px nx cx, .slice py nx cy] 28))) := ⟨World.ownsRow_lit W23 #[.slice px nx cx, .slice py nx cy] 2 (Nat.le_refl _) (by decide) rfl, (Below.refl _ _).alloc (Nat.le_refl _) _⟩
      generalize (W23.alloc (.cells #[.slice px nx cx, .slice py nx cy] 28)) = W24 at *
      obtain ⟨i9, z9, hi9, hz9, hs9, hb9, hzs9⟩ := info_ofF 28 24 (by kernel_rfl) (by kernel_rfl)
      have HJ : Hid (Tryd.prog.info? 28 = some i9 ∧ i9.zero = some z9 ∧ i9.size = 1 ∧ i9.bytes = 24 ∧ z9.cells.size = 1) := ⟨hi9, hz9, hs9, hb9, hzs9⟩
      clear hi9 hz9 hs9 hb9 hzs9 HYx HYy HYw HYv
      have HS23 : Hid (W13.heap.size < W23.heap.size) := HCr.out.lt
      go_wp2_with fail
      go_loopw [19, 20] (fun lv a wr => ∃ j : Nat, j ≤ Ep.length ∧ a = .int .i64 j ∧ ∃ lq lc, lv = .slice lq (2 + j) lc ∧ Hid (wr.ownsRow W23.heap.size 28 1 (.slice lq (2 + j) lc) (2 + j) ([.slice px nx cx, .slice py nx cy] ++ (Ep.take j).map (·.2)) ∧ Below W23.heap.size W23 wr)) (fun _ a _ => (Ep.length - intOf a).toNat)
      case atStart => exact ⟨0, by omega, rfl, _, _, rfl, HLv⟩
      case round =>
        obtain ⟨j, hj, rfl, lq, lc, rfl, HR⟩ := hrel
        have xp1 := (HCp.out.below HR.out.2).2.1
        by_cases hlt2 : j < Ep.length
        · have g1 : (j : Int) < Ep.length := by omega
          obtain ⟨z, hz⟩ : ∃ z, Ep[j]? = some z := ⟨Ep[j], List.getElem?_eq_getElem hlt2⟩
          have SG := HGp.out.below HR.out.2
          obtain ⟨_, _, f2, _⟩ := flatE_get Ep _ z hz
          obtain ⟨gq, rfl, a2⟩ := own_cell SG.own f2 (by omega) (by omega)
          obtain ⟨dq, dc, hd, -⟩ := own_form (SG.dat z (List.mem_of_getElem? hz))
          rw [hd] at a2
          have HZj : Hid (Ep.take (j + 1) = Ep.take j ++ [z] ∧ z.2 = .slice dq z.1.sz dc) := ⟨by rw [List.take_add_one, hz]; rfl, hd⟩
          have h8 : Ep.length ≤ 8 := HLp.out
          clear SG f2 hd hz
          generalize z.1.sz = dn at *
          go_wp2_with (first
            | (at_builtin; refine wpList_append_keep _ rfl _ _ 51 rfl W23.heap.size 28 i9 z9 24 Tryd.underlying51 HJ.out.1 HJ.out.2.1 HJ.out.2.2.1 HJ.out.2.2.2.1 HJ.out.2.2.2.2 _ (2 + j) _ rfl (HR.out.1.alloc _) ⟨wr.heap.size, 0, .none⟩ 1 (.slice dq dn dc) rfl ?c1 ?c2 ?c3 ?c4 ?c5 ?c6 ?_)
            | fail)
          case c1 => simp
          case c2 => rfl
          case c3 => rfl
          case c4 => unfold maxLen; omega
          case c5 => omega
          case c6 => have := HR.out.2.size; simp only [World.size_alloc]; omega
          · intro v' w2 own' grow keep b fb fc
            obtain ⟨lq', lc', rfl, -⟩ := own_form own'
            have HN : Hid (w2.ownsRow W23.heap.size 28 1 (.slice lq' (2 + (j + 1)) lc') (2 + (j + 1)) ([.slice px nx cx, .slice py nx cy] ++ (Ep.take (j + 1)).map (·.2)) ∧ Below W23.heap.size W23 w2) := by
              constructor
              · rw [HZj.out.1, List.map_append, ← List.append_assoc]
                have e : [z].map (·.2) = [Value.slice dq dn dc] := by rw [← HZj.out.2]; rfl
                rw [e]
                rw [← List.map_take] at own'
                exact own'
              · exact (HR.out.2.alloc HR.out.2.size _).grown grow (by have := HR.out.2.size; simp only [World.size_alloc]; omega) (fun r e => (HR.out.1.lt _ e).1)
            clear own' grow keep fb fc HR
            go_wp2_with fail
            exact ⟨⟨j + 1, by omega, by simp, _, _, rfl, HN⟩, by simp [intOf]; omega⟩
        · have hn2 : ¬ ((j : Int) < Ep.length) := by omega
          have hje : j = Ep.length := by omega
          subst hje
          obtain ⟨lb, rfl⟩ : ∃ lb, lq = some ⟨lb, 0, .none⟩ := by
            obtain ⟨gx, e, _⟩ := own_cell HR.out.1 (k := 0) (v := .slice px nx cx) rfl (by omega) (by omega)
            exact ⟨gx, e⟩
          have HS23b : Hid (W23.heap.size ≤ lb) := own_block HR.out.1 lb rfl
          have hrow := HR.out.1
          rw [List.take_of_length_le (Nat.le_refl _)] at hrow
          have SG := HGp.out.below HR.out.2
          have sz := HSz.out
          have s23 := HS23.out
          have s23b := HS23b.out
          have c19 := free_rows (a0 := W2.heap.size) (a1 := W3.heap.size) (b0 := W4.heap.size) (b1 := W5.heap.size) (c1 := W9.heap.size) (by obtain ⟨zs, o⟩ := HOx.out.below HR.out.2; exact ⟨zs, own_mono o (Nat.zero_le _)⟩) HUx.out (by obtain ⟨zs, o⟩ := HOy.out.below HR.out.2; exact ⟨zs, own_mono o (Nat.zero_le _)⟩) HUy.out SG (fun z hz k hk => (HG0p.out.dat z hz).lt k hk) HUp.out (by omega) (by omega) (by omega) (by omega) HLp.out HNx.out (fun z hz => lsF_sz nB Bf ha hr _ (by rw [← HMp.out]; exact List.mem_map.2 ⟨z, hz, rfl⟩)) hrow
          have HBr : Hid (Below w.heap.size w wr) := HB.out.trans (HR.out.2.mono HB.out.size)
          have HR2 : Hid (Below W23.heap.size W23 wr) := HR.out.2
          clear SG hrow sz s23 s23b
          go_wp2_with fail
          refine c19.mono ?_
          rintro _ W26 ⟨rfl, hos, oth⟩
          have sz := HSz.out
          have s23 := HS23.out
          have s24 := HR2.out.size
          have HCq2 : Hid (Cl2 W26 W11.heap.size (.int .u64 (enF nB Bf ha hr)) (.slice qq Eq.length cq)) := (HCq.out.below HR2.out).blk (oth _ (HCq.out.below HR2.out).lt (by omega) (by omega) (by omega))
          have HCr2 : Hid (Cl2 W26 W13.heap.size (.int .u64 (enF nB Bf ha hr)) (.slice qr Er.length cr)) := (HCr.out.below HR2.out).blk (oth _ (HCr.out.below HR2.out).lt (by omega) (by omega) (by omega))
          have HGq2 : Hid (Segs W26 W10.heap.size (.slice qq Eq.length cq) Eq Bf) := (HGq.out.below HR2.out).move HG0q.out (fun k h1 h2 => oth k (by omega) (by omega) (by omega) (by omega))
          have HGr2 : Hid (Segs W26 W12.heap.size (.slice qr Er.length cr) Er Bf) := (HGr.out.below HR2.out).move HG0r.out (fun k h1 h2 => oth k (by omega) (by omega) (by omega) (by omega))
          have HB26 : Hid (Below w.heap.size w W26) := ⟨hos.1.trans HBr.out.os, hos.2.1.trans HBr.out.tape, hos.2.2.1.trans HBr.out.output, Nat.le_trans HBr.out.size hos.2.2.2, fun k hk => (oth k (by have := HBr.out.size; omega) (by omega) (by omega) (by omega)).trans (HBr.out.block k hk)⟩
          clear sz s23 s24 oth hos c19 xp1
          have c18 := same_rr HGq2.out HGr2.out HBd.out HMq.out HMr.out (lsF_sz nB Bf ha hr) HLq.out (enF nB Bf ha hr)
          dsimp only
          have xq0 := HCq2.out.1
          have xq1 := HCq2.out.2.1
          have xr0 := HCr2.out.1
          have xr1 := HCr2.out.2.1
          go_wp2_with fail
          refine c18.mono ?_
          rintro _ W27 ⟨rfl, hb27⟩
          clear xq0 xq1 xr0 xr1
          dsimp only
          go_wp2_with fail
          go_ret
          exact ⟨rfl, HB26.out.trans (hb27.mono HB26.out.size)⟩
end Go.Proofs.YtloldhcljdmofaaDoor
namespace Go.Proofs.YtloldhcljdmofaaDoor
open Go.ChangeShapes Go.WideShapes Go.ChangeAt Go.RowKit Go.Joins
set_option linter.unusedVariables false
set_option linter.unusedSimpArgs false
theorem laid_fresh {W : World} (h : laidMetH Tryd.prog Rows.elfFreshRow.laid W) : Laid W := by
  have h : laidMet Tryd.prog Rows.elfFreshRow.laid W := by
    unfold laidMetH at h
    rw [show (Rows.elfFreshRow.laid.filter fun x => x.2.handleName?.isSome) = [] by kernel_rfl] at h
    exact h
  exact laid_of h
theorem door_fresh (os : Os) (args : Array Value) : laidMetH Tryd.prog Rows.elfFreshRow.laid ((World.doorLaid Tryd.prog 400 os).forCall (fun _ _ => 0) ⟨#[], args, []⟩).memory :=
  laidMetH_of_parts3 (fuel := 8) (laidMet_of_run' 8 (by kernel_rfl) (by kernel_rfl)) (by kernel_rfl) (by kernel_rfl)
set_option maxRecDepth 100000 in
theorem elfFresh_lifted (os : Os) (started : os.Started) (H : Type) (enc : TypeId × Value → H) :
    ReturnsInHanded {} Tryd.checked os 4 .any (fun w args => (Rows.elfFreshSpec.pre enc Tryd.prog Tryd.f4 [] false w args ∧ laidMetH Tryd.prog Rows.elfFreshRow.laid w) ∧ sizedMet enc Tryd.prog Tryd.f4 (OpenSpec.ofChange Rows.elfFreshSpec) false w args)
      (Rows.elfFreshSpec.post enc Tryd.prog Tryd.f4 false true false false) := by
  refine returnsInHanded_of_change_and (C := Tryd.checked) (X := fun w _ => laidMetH Tryd.prog Rows.elfFreshRow.laid w) (fun _ _ _ hh h => h.of_heap hh) own started (by kernel_rfl) Tryd.func4
    (ChangeSpec.witness_shaped (enc := enc) (C := Tryd.checked) (os := os) (X := fun w _ => laidMetH Tryd.prog Rows.elfFreshRow.laid w) false (World.doorLaid Tryd.prog 400 os) #[.agg #[.int .u64 0, .slice .none 0 0], .slice .none 0 0] 8 rfl (World.shaped_of_RefB (by kernel_rfl) (by kernel_rfl)) (by kernel_rfl) (by kernel_rfl) (by kernel_rfl) (door_fresh os _)) ?_
  intro W base args ds gs before hval0 hW _ hsz hL _
  have hval : ∀ (j : Nat) t v, Tryd.f4.params[j]? = some t → args[j]? = some v → Value.okWide Tryd.prog W .any base t v := hval0
  have hW' := hW
  obtain ⟨p, q, hA0, hV, rfl, hfz, hnd⟩ := hW
  have hA : DataW.TrodAll enc Tryd.prog W 0 (fun _ => true) true Tryd.f4.params.toList args.toList ds p := hA0
  rw [Tryd.params4] at hA hval
  obtain ⟨v0, vs0, d0, ds0, p0, q0, hargs, rfl, rfl, h0, r0⟩ := trodAll_cons hA
  obtain ⟨v1, vs1, d1, ds1, p1, q1, rfl, rfl, rfl, h1, r1⟩ := trodAll_cons r0
  obtain ⟨rfl, rfl, rfl⟩ := trodAll_nil r1
  obtain rfl : args = #[v0, v1] := by cases args; simp_all
  obtain ⟨rfl, rfl⟩ := trodVars_none hV
  have k0 := h0
  have k1 := h1
  have lt0 : ∀ x ∈ p0, x.block < W.heap.size := by obtain ⟨m, hm⟩ := k0; exact DataW.trod_lt m _ _ _ hm
  have lt1 : ∀ x ∈ p1, x.block < W.heap.size := by obtain ⟨m, hm⟩ := k1; exact DataW.trod_lt m _ _ _ hm
  have h00 : DataW.Trod enc Tryd.prog W 0 (fun _ => true) true 25 v0 d0 p0 := h0
  have h11 : DataW.Trod enc Tryd.prog W 0 (fun _ => true) true 28 v1 d1 p1 := h1
  have hz : (DataW.weightsEach Tryd.prog [25, 28] [d0, d1]).all (· ≤ reachBytes) = true := hsz
  have rb : reachBytes = 140737488351232 := by decide
  have hb : ∀ k ∈ d0.weights Tryd.prog 25, k ≤ 140737488351232 := by
    intro k hk
    have h1 := List.all_eq_true.1 hz k (DataW.weights_mem_each (P := Tryd.prog) (ts := [25, 28]) (ds := [d0, d1]) (j := 0) rfl rfl k hk)
    rw [rb] at h1
    exact of_decide_eq_true h1
  have hb1 : ∀ k ∈ d1.weights Tryd.prog 28, k ≤ 140737488351232 := by
    intro k hk
    have h1 := List.all_eq_true.1 hz k (DataW.weights_mem_each (P := Tryd.prog) (ts := [25, 28]) (ds := [d0, d1]) (j := 1) rfl rfl k hk)
    rw [rb] at h1
    exact of_decide_eq_true h1
  obtain ⟨en, q, m, c, S, D, rfl, hen, hArg⟩ := open_elf (hval 0 25 v0 rfl rfl) h00 hb
  obtain ⟨fuel, hf⟩ := h11
  obtain ⟨sa, sl, sc, rfl⟩ := okWide_slice Tryd.underlying28 (hval 1 28 v1 rfl rfl)
  have hf' : DataW.trod enc Tryd.prog W 0 (fun _ => true) true fuel 28 [.slice sa sl sc] = some (d1, p1) := hf
  obtain ⟨pp, n, c', xs, hvv, hby, hxb, hwt⟩ := open_byt hf'
  injection hvv with hv1 hv2 hv3
  subst hv1 hv2 hv3
  have hbn := hwt _ hb1
  clear hA0 hval0
  refine (fresh_any hArg (laid_fresh hL) en hen hby hxb (by omega)).mono fun e W' ⟨he, bel⟩ => ?_
  subst he
  exact ⟨_, rfl, _, _, _, [], _, [], hW', trodAll_mk1 (shut_bool Tryd.underlying4 _), (trodAll_cons_mk (Below.trod laidOut (by kernel_rfl) (of_decide_eq_true (by kernel_rfl)) k0 bel lt0) (trodAll_cons_mk (Below.trod laidOut (by kernel_rfl) (of_decide_eq_true (by kernel_rfl)) k1 bel lt1) trodAll_mk0)), rfl, bel.frame _, fun h => by cases h⟩
theorem elfFresh_row_holds : Rows.ElfFreshSaid :=
  OpenClaim.holds_of_wide 4 Tryd.f4 rfl rfl rfl rfl rfl rfl rfl ⟨rfl, rfl, rfl, rfl, rfl⟩ rfl rfl rfl rfl rfl (by kernel_rfl) Tryd.func4 (by kernel_rfl)
    (of_decide_eq_true (by kernel_rfl)) (by unfold Func.isWrapper; first | (rw [if_pos (by decide +kernel)]; kernel_rfl) | (rw [if_neg (by decide +kernel)]; exact ⟨rfl, rfl⟩))
    (fun os started H enc _ => elfFresh_lifted os started H enc)
theorem elfFresh_holds : Rows.ElfFreshCardSaid :=
  Claim7.holds_tied_plain_at .later [] [.wider, .wider] true (true, "0b5b1685dc46e0f29808f742b5b61bb6de6f2966d09bc687c826cf46c3ba6672") true
    elfFresh_row_holds (fun _ h => by cases h) (by kernel_rfl) (fun _ h => by cases h) elfFresh_row_tie rfl ⟨rfl, rfl⟩ (by kernel_rfl) rfl
    (fun f fn hf hfn => by
      obtain rfl : f = 4 := Option.some.inj ((show Tryd.prog.funcNamed "hartix/hartixlaw7.ElfFresh" = some 4 by kernel_rfl).symm.trans hf) |>.symm
      obtain rfl : fn = Tryd.f4 := (Option.some.inj (Tryd.func4.symm.trans hfn)).symm
      exact ⟨by kernel_rfl, fun j t ht => by
        rw [Tryd.params4] at ht
        have hm : t ∈ [25, 28] := by simpa using Array.mem_of_getElem? ht
        have hall : ([25, 28].all fun u => !Tryd.prog.wantsStandIn u) = true := by kernel_rfl
        exact (show Tryd.prog.wantsStandIn t = false by simpa using List.all_eq_true.1 hall t hm)⟩)
    (by kernel_rfl)
#print axioms elfFresh_holds
end Go.Proofs.YtloldhcljdmofaaDoor
