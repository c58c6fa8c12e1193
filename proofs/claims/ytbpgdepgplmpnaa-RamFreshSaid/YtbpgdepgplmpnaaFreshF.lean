import Derived.Test.YtbpgdepgplmpnaaFreshE
import Derived.Test.YtbpgdepgplmpnaaApart
namespace Go.Proofs.Ytbpgdepgplmpnaa
open Go.RowKit
set_option linter.unusedVariables false
set_option linter.unusedSimpArgs false
/-- A block that may be written over: of bytes, of words, of frames. -/
def Exc (V : World) (X k : Nat) : Prop := X ≤ k ∧ ∃ cur e fl, V.heap[k]? = some (.cells cur e fl) ∧ (e = 5 ∨ e = 22 ∨ e = 76)
structure KpF (V : World) (X : Nat) (W : World) : Prop where
  os : W.os = V.os
  tape : W.tape = V.tape
  output : W.output = V.output
  size : V.heap.size ≤ W.heap.size
  block : ∀ k, k < V.heap.size → ¬ Exc V X k → W.heap[k]? = V.heap[k]?
theorem KpF.of {V W : World} {X : Nat} (b : Below V.heap.size V W) : KpF V X W := ⟨b.os, b.tape, b.output, b.size, fun k hk _ => b.block k hk⟩
theorem KpF.below {V W W' : World} {X : Nat} (h : KpF V X W) (b : Below W.heap.size W W') : KpF V X W' :=
  ⟨b.os.trans h.os, b.tape.trans h.tape, b.output.trans h.output, Nat.le_trans h.size b.size, fun k hk he => (b.block k (Nat.lt_of_lt_of_le hk h.size)).trans (h.block k hk he)⟩
theorem KpF.toBelow {V W : World} {X : Nat} (h : KpF V X W) (hX : X ≤ V.heap.size) : Below X V W := ⟨h.os, h.tape, h.output, h.size, fun k hk => h.block k (by omega) (fun e => by have := e.1; omega)⟩
theorem own_exc {V : World} {X e s n : Nat} {v : Value} {xs : List Value} (h : V.ownsRow X e s v n xs) (he : e = 5 ∨ e = 22 ∨ e = 76) {g : Nat} (hg : v.ownBlock = some g) : Exc V X g := by
  rcases h.2 with ⟨rfl, _⟩ | ⟨g', cap, cur, rfl, hX, hh, _⟩
  · simp [Value.ownBlock] at hg
  · have e1 : g' = g := by simpa [Value.ownBlock] using hg
    subst e1
    exact ⟨hX, _, _, _, hh, he⟩
theorem own_notExc {V : World} {X e s n : Nat} {v : Value} {xs : List Value} (h : V.ownsRow X e s v n xs) (he : ¬ (e = 5 ∨ e = 22 ∨ e = 76)) {g : Nat} (hg : v.ownBlock = some g) : ¬ Exc V X g := by
  rcases h.2 with ⟨rfl, _⟩ | ⟨g', cap, cur, rfl, hX, hh, _⟩
  · simp [Value.ownBlock] at hg
  · have e1 : g' = g := by simpa [Value.ownBlock] using hg
    subst e1
    rintro ⟨_, cur', e', fl', hh', he'⟩
    rw [hh] at hh'
    injection hh' with hh'
    injection hh' with _ h2 _
    exact he (h2 ▸ he')
theorem KpF.fs {V W W' : World} {X E M : Nat} {n : Nat → Nat} {v : Nat → Value} {xs : Nat → List Value} (h : KpF V X W) (f : Fs E M n v W W' xs) (hv : ∀ i, i < M → ∀ g, (v i).ownBlock = some g → Exc V X g) : KpF V X W' :=
  ⟨f.os.trans h.os, f.tape.trans h.tape, f.output.trans h.output, Nat.le_trans h.size f.size, fun k hk he => (f.block k (Nat.lt_of_lt_of_le hk h.size) (fun i hi e => he (hv i hi k e.symm))).trans (h.block k hk he)⟩
theorem KpF.f2 {V W W' : World} {X n1 n2 : Nat} {va vb : Value} {xs ys : List Value} (h : KpF V X W) (f : F2 n1 n2 va vb W W' xs ys) (ha : ∀ g, va.ownBlock = some g → Exc V X g) (hb : ∀ g, vb.ownBlock = some g → Exc V X g) : KpF V X W' :=
  ⟨f.os.trans h.os, f.tape.trans h.tape, f.output.trans h.output, Nat.le_trans h.size f.size, fun k hk he => (f.block k (Nat.lt_of_lt_of_le hk h.size) (fun e => he (ha k e.symm)) (fun e => he (hb k e.symm))).trans (h.block k hk he)⟩
theorem own_of_block {W W' : World} {X e s n : Nat} {v : Value} {xs : List Value} (h : W.ownsRow X e s v n xs) (hb : ∀ g, v.ownBlock = some g → W'.heap[g]? = W.heap[g]?) : W'.ownsRow X e s v n xs := by
  refine ⟨h.1, ?_⟩
  rcases h.2 with h0 | ⟨g, cap, cur, hv, hX, hh, r⟩
  · exact .inl h0
  · exact .inr ⟨g, cap, cur, hv, hX, (hb g (by rw [hv]; rfl)).trans hh, r⟩
theorem kinds_ne {w : World} {X e1 e2 s1 s2 n1 n2 : Nat} {v1 v2 : Value} {xs1 xs2 : List Value} (h1 : w.ownsRow X e1 s1 v1 n1 xs1) (h2 : w.ownsRow X e2 s2 v2 n2 xs2) (he : e1 ≠ e2) {g : Nat} (hg : v1.ownBlock = some g) : v2.ownBlock ≠ some g := by
  rcases kinds_apart h1 h2 he with h | h
  · rw [h] at hg; cases hg
  · rw [hg] at h; exact fun e => h e.symm
section
variable {W0 : World} {X : Nat} {V : World} {n0 : Nat} {B : Nat → Int} {k : Nat} {q : Nat → Option Addr} {c : Nat → Nat} {fq : Nat → Option Addr} {fc : Nat → Nat} {hq : Nat → Option Addr} {hc : Nat → Nat} {ql : Option Addr} {cl : Nat} {qt : Option Addr} {ct : Nat}
/-- The frames of both images are written over. -/
theorem LR.apart (h : LR W0 X 2 V n0 B k q c fq fc hq hc ql cl qt ct) : ∃ g1 g2, hq 0 = some ⟨g1, 0, .none⟩ ∧ hq 1 = some ⟨g2, 0, .none⟩ ∧ g1 ≠ g2 ∧ F2 2 2 (.slice (some ⟨g1, 0, .none⟩) 2 (hc 0)) (.slice (some ⟨g2, 0, .none⟩) 2 (hc 1)) V V
    [.int .u64 (PP 0), .slice (q 3) 4096 (c 3), .int .u64 (PP 1), .slice (q 4) 4096 (c 4)] [.int .u64 (PP 0), .slice (q 8) 4096 (c 8), .int .u64 (PP 1), .slice (q 9) 4096 (c 9)] := by
  have r0 := h.rl.hel 0 (by omega)
  have r1 := h.rl.hel 1 (by omega)
  rcases r0.2 with ⟨_, h0⟩ | ⟨g1, _, _, e1, _⟩
  · omega
  rcases r1.2 with ⟨_, h0⟩ | ⟨g2, _, _, e2, _⟩
  · omega
  injection e1 with e1 _ _
  injection e2 with e2 _ _
  have ap := h.rl.hap 0 1 (by omega) (by omega) (by omega) g1 (by simp only [e1, Value.ownBlock])
  refine ⟨g1, g2, e1, e2, fun e => ap (by simp only [e2, Value.ownBlock, e]), ?_⟩
  rw [e1] at r0
  rw [e2] at r1
  exact ⟨ownsRow_base r0 (Nat.zero_le _), ownsRow_base r1 (Nat.zero_le _), rfl, rfl, rfl, Nat.le_refl _, fun _ _ _ _ => rfl⟩
/-- Rows of bytes and of words behind that. -/
theorem LR.rows3 (h : LR W0 X 2 V n0 B k q c fq fc hq hc ql cl qt ct) {W' : World} {va vb : Value} {ca cb : Nat} {xs ys xs0 ys0 : List Value} (ha : V.ownsRow X 76 2 va 2 xs0) (hb : V.ownsRow X 76 2 vb 2 ys0) (f : F2 2 2 va vb V W' xs ys) :
    (∀ i, i < 10 → W'.ownsRow 0 5 1 (.slice (q i) (nnF n0 (i % 5)) (c i)) (nnF n0 (i % 5)) (rowB (nnF n0 (i % 5)) (RRF B k (i % 5)))) ∧ (∀ j, j < 2 → W'.ownsRow 0 22 1 (.slice (fq j) 3 (fc j)) 3 [.int .u64 (FF 0), .int .u64 (FF 1), .int .u64 (FF 2)]) := by
  refine ⟨fun i hi => ?_, fun j hj => ?_⟩
  · have r := h.rl.row i (by omega)
    exact ownsRow_base (own_of_block r (fun g hg => f.block g (r.lt g hg).2 (fun e => kinds_ne r ha (by decide) hg e.symm) (fun e => kinds_ne r hb (by decide) hg e.symm))) (Nat.zero_le _)
  · have r := h.rl.fre j hj
    exact ownsRow_base (own_of_block r (fun g hg => f.block g (r.lt g hg).2 (fun e => kinds_ne r ha (by decide) hg e.symm) (fun e => kinds_ne r hb (by decide) hg e.symm))) (Nat.zero_le _)
end
end Go.Proofs.Ytbpgdepgplmpnaa
