import Derived.Test.YtacdgfojdkppmaaGreatDoorRows
import Derived.WalkKit
import Derived.WalkSpells
import Derived.RowKit3
import Derived.LoopTactic
import Derived.Below
import Derived.Maps.OwnSet
import Derived.Laws.IdiomCopy
import Derived.Lib.SliceRun
import Derived.Deep.Draws
import Derived.WalkSmall
namespace Go.Proofs.YtacdgfojdkppmaaGreatDoor.Rm
open Go.RowKit
set_option linter.unusedVariables false
set_option linter.unusedSimpArgs false
/-- Three blocks may have turned; all others that were there are as they were. -/
structure Fra (p b m : Nat) (w w' : World) : Prop where
 os : w'.os = w.os
 tape : w'.tape = w.tape
 output : w'.output = w.output
 size : w.heap.size ≤ w'.heap.size
 block : ∀ k, k < w.heap.size → k ≠ p → k ≠ b → k ≠ m → w'.heap[k]? = w.heap[k]?
theorem Fra.refl (p b m : Nat) (w : World) : Fra p b m w w := ⟨rfl, rfl, rfl, Nat.le_refl _, fun _ _ _ _ _ => rfl⟩
theorem Fra.trans {p b m : Nat} {u v w : World} (h : Fra p b m u v) (k : Fra p b m v w) : Fra p b m u w :=
 ⟨k.os.trans h.os, k.tape.trans h.tape, k.output.trans h.output, Nat.le_trans h.size k.size, fun i hi a c d => (k.block i (Nat.lt_of_lt_of_le hi h.size) a c d).trans (h.block i hi a c d)⟩
theorem Fra.below {p b m : Nat} {w w' : World} (h : Below w.heap.size w w') : Fra p b m w w' := ⟨h.os, h.tape, h.output, h.size, fun k hk _ _ _ => h.block k hk⟩
theorem Fra.alloc {p b m : Nat} {w w' : World} (h : Fra p b m w w') (o : Obj) : Fra p b m w (w'.alloc o) := h.trans (Fra.below ((Below.refl _ _).alloc (Nat.le_refl _) _))
theorem Fra.drewN {p b m : Nat} {w w' : World} (h : Fra p b m w w') (n : Nat) : Fra p b m w (w'.drewN n) := h.trans ⟨rfl, rfl, rfl, Nat.le_refl _, fun _ _ _ _ _ => rfl⟩
theorem Fra.setCell {p b m : Nat} {w w' : World} (h : Fra p b m w w') (a : Addr) (v : Value) (ha : a.block = p ∨ a.block = b) : Fra p b m w (w'.setCell a v) := by
 have g : Below 0 w' (w'.setCell a v) := (Below.refl _ _).setCell (Nat.zero_le _) _
 refine h.trans ⟨g.os, g.tape, g.output, g.size, fun k hk h1 h2 h3 => Below.heap_setCell _ _ _ _ ?_⟩
 rcases ha with e | e <;> rw [e] <;> assumption
theorem Fra.setCells {p b m : Nat} {w w' : World} (h : Fra p b m w w') : ∀ (o : Nat) (vs : List Value), Fra p b m w (w'.setCells b o vs) := by
 intro o vs
 induction vs generalizing o w' with
 | nil => exact h
 | cons v vs ih => exact ih (h.setCell ⟨b, o, .none⟩ v (.inr rfl)) (o + 1)
theorem Fra.turned {p b m : Nat} {w w' w'' : World} (h : Fra p b m w w') (t : w'.mapTurned w'' m) : Fra p b m w w'' := by
 have g := t.grown
 exact h.trans ⟨g.os, g.tape, g.output, g.size, fun k hk _ _ h3 => g.block k hk (by simpa using h3)⟩
theorem Fra.cell {p b m : Nat} {w w' : World} (h : Fra p b m w w') {x : Addr} (hx : x.block < w.heap.size) (h1 : x.block ≠ p) (h2 : x.block ≠ b) (h3 : x.block ≠ m) : w'.cell? x = w.cell? x := by
 simp only [World.cell?, h.block _ hx h1 h2 h3]
theorem Fra.frozen {p b m : Nat} {w w' : World} (h : Fra p b m w w') {x : Addr} (hx : x.block < w.heap.size) (h1 : x.block ≠ p) (h2 : x.block ≠ b) (h3 : x.block ≠ m) : w'.frozen? x = w.frozen? x := by
 simp only [World.frozen?, h.block _ hx h1 h2 h3]
/-- From a mark below all three on nothing has turned. -/
theorem Fra.toBelow {p b m B : Nat} {w w' : World} (h : Fra p b m w w') (hB : B ≤ w.heap.size) (h1 : B ≤ p) (h2 : B ≤ b) (h3 : B ≤ m) : Below B w w' :=
 ⟨h.os, h.tape, h.output, h.size, fun k hk => h.block k (by omega) (by omega) (by omega) (by omega)⟩
/-- THE MEMORY: three cells of the struct, the bytes, the set of held frames. -/
structure Mem (w : World) (p b m N : Nat) (B : Nat → Int) (nx : Int) (hd : Int → Bool) (cnt : Nat) : Prop where
 c0 : w.cell? ⟨p, 0, .none⟩ = some (.slice (some ⟨b, 0, .none⟩) (4096 * N) (4096 * N))
 c1 : w.cell? ⟨p, 1, .none⟩ = some (.int .u64 nx)
 c2 : w.cell? ⟨p, 2, .none⟩ = some (.map (some m))
 f1 : w.frozen? ⟨p, 1, .none⟩ = false
 cb : ∀ i, i < 4096 * N → w.cell? ⟨b, i, .none⟩ = some (.int .u8 (B i))
 fb : ∀ i, i < 4096 * N → w.frozen? ⟨b, i, .none⟩ = false
 hm : ∃ D : DataW Unit, w.ownsMap Tryz.prog 24 unitElem m (Maps.size D) D ∧ (∀ a : Int, 0 ≤ a → a < 18446744073709551616 → Maps.has D (.int .u64 a) = hd a) ∧ Maps.size D = cnt
 n1 : 1 ≤ N
 n2 : N ≤ 4096
 bb : ∀ i, 0 ≤ B i ∧ B i < 256
 nb : 0 ≤ nx ∧ nx < 18446744073709551616
section
variable {w : World} {p b m N cnt : Nat} {B : Nat → Int} {nx : Int} {hd : Int → Bool}
theorem Mem.pb (h : Mem w p b m N B nx hd cnt) : p ≠ b := by
 intro e
 subst e
 have := h.cb 0 (by have := h.n1; omega)
 rw [h.c0] at this
 cases this
theorem Mem.mp (h : Mem w p b m N B nx hd cnt) : m ≠ p := by
 intro e
 subst e
 obtain ⟨D, ⟨es, cl, hb, _⟩, _⟩ := h.hm
 have := h.c0
 simp [World.cell?, hb] at this
theorem Mem.mb (h : Mem w p b m N B nx hd cnt) : m ≠ b := by
 intro e
 subst e
 obtain ⟨D, ⟨es, cl, hb, _⟩, _⟩ := h.hm
 have := h.cb 0 (by have := h.n1; omega)
 simp [World.cell?, hb] at this
theorem lt_of_cell {w : World} {x : Addr} {v : Value} (h : w.cell? x = some v) : x.block < w.heap.size := by
 by_cases hx : x.block < w.heap.size
 ·exact hx
 ·simp [World.cell?, Array.getElem?_eq_none (Nat.le_of_not_lt hx)] at h
theorem Mem.plt (h : Mem w p b m N B nx hd cnt) : p < w.heap.size := lt_of_cell h.c0
theorem Mem.blt (h : Mem w p b m N B nx hd cnt) : b < w.heap.size := lt_of_cell (h.cb 0 (by have := h.n1; omega))
theorem Mem.mlt (h : Mem w p b m N B nx hd cnt) : m < w.heap.size := by
 obtain ⟨D, hD, _⟩ := h.hm
 exact hD.lt
/-- What keeps the three blocks keeps the memory. -/
theorem Mem.keep (h : Mem w p b m N B nx hd cnt) {w' : World} (hp : w'.heap[p]? = w.heap[p]?) (hb : w'.heap[b]? = w.heap[b]?) (hm : w'.heap[m]? = w.heap[m]?) : Mem w' p b m N B nx hd cnt := by
 have cp : ∀ i, w'.cell? ⟨p, i, .none⟩ = w.cell? ⟨p, i, .none⟩ := fun i => by simp only [World.cell?, hp]
 have fp : ∀ i, w'.frozen? ⟨p, i, .none⟩ = w.frozen? ⟨p, i, .none⟩ := fun i => by simp only [World.frozen?, hp]
 have cb : ∀ i, w'.cell? ⟨b, i, .none⟩ = w.cell? ⟨b, i, .none⟩ := fun i => by simp only [World.cell?, hb]
 have fb : ∀ i, w'.frozen? ⟨b, i, .none⟩ = w.frozen? ⟨b, i, .none⟩ := fun i => by simp only [World.frozen?, hb]
 obtain ⟨D, ⟨es, cl, hes, r⟩, r2⟩ := h.hm
 exact ⟨(cp 0).trans h.c0, (cp 1).trans h.c1, (cp 2).trans h.c2, (fp 1).trans h.f1, fun i hi => (cb i).trans (h.cb i hi), fun i hi => (fb i).trans (h.fb i hi), ⟨D, ⟨es, cl, hm.trans hes, r⟩, r2⟩, h.n1, h.n2, h.bb, h.nb⟩
theorem Mem.below (h : Mem w p b m N B nx hd cnt) {w' : World} (k : Below w.heap.size w w') : Mem w' p b m N B nx hd cnt := h.keep (k.block _ h.plt) (k.block _ h.blt) (k.block _ h.mlt)
theorem Mem.alloc (h : Mem w p b m N B nx hd cnt) (o : Obj) : Mem (w.alloc o) p b m N B nx hd cnt := h.below ((Below.refl _ _).alloc (Nat.le_refl _) _)
theorem Mem.drewN (h : Mem w p b m N B nx hd cnt) (n : Nat) : Mem (w.drewN n) p b m N B nx hd cnt := h.keep rfl rfl rfl
theorem Mem.setOther (h : Mem w p b m N B nx hd cnt) {a : Addr} (h1 : p ≠ a.block) (h2 : b ≠ a.block) (h3 : m ≠ a.block) (v : Value) : Mem (w.setCell a v) p b m N B nx hd cnt :=
 h.keep (Below.heap_setCell _ _ _ _ h1) (Below.heap_setCell _ _ _ _ h2) (Below.heap_setCell _ _ _ _ h3)
theorem Mem.setNext (h : Mem w p b m N B nx hd cnt) (v : Int) (hv : 0 ≤ v ∧ v < 18446744073709551616) : Mem (w.setCell ⟨p, 1, .none⟩ (.int .u64 v)) p b m N B v hd cnt := by
 have hb : (w.setCell ⟨p, 1, .none⟩ (.int .u64 v)).heap[b]? = w.heap[b]? := Below.heap_setCell _ _ _ _ (fun e => h.pb e.symm)
 have cb : ∀ i, (w.setCell ⟨p, 1, .none⟩ (.int .u64 v)).cell? ⟨b, i, .none⟩ = w.cell? ⟨b, i, .none⟩ := fun i => by simp only [World.cell?, hb]
 obtain ⟨D, hD, r⟩ := h.hm
 refine ⟨?_, ?_, ?_, ?_, fun i hi => (cb i).trans (h.cb i hi), fun i hi => by rw [World.frozen?_setCell]; exact h.fb i hi, ⟨D, hD.setCell (a := ⟨p, 1, .none⟩) h.mp _, r⟩, h.n1, h.n2, h.bb, hv⟩
 ·rw [World.cell?_setCell_other _ _ _ _ (by simp)]; exact h.c0
 ·exact World.cell?_setCell_same' _ _ _ (by rw [h.c1]; rfl)
 ·rw [World.cell?_setCell_other _ _ _ _ (by simp)]; exact h.c2
 ·rw [World.frozen?_setCell]; exact h.f1
/-- Bytes laid over a place. -/
def over (B : Nat → Int) (o : Nat) (vs : List Int) : Nat → Int := fun i => if o ≤ i ∧ i < o + vs.length then vs.getD (i - o) 0 else B i
theorem Mem.setCells (h : Mem w p b m N B nx hd cnt) (o : Nat) (vs : List Int) (ho : o + vs.length ≤ 4096 * N) (hv : ∀ v ∈ vs, 0 ≤ v ∧ v < 256) :
  Mem (w.setCells b o (vs.map (.int .u8))) p b m N (over B o vs) nx hd cnt := by
 have F := (Fra.refl p b m w).setCells o (vs.map (.int .u8))
 have out : ∀ x : Addr, x.block ≠ b → (w.setCells b o (vs.map (.int .u8))).cell? x = w.cell? x := fun x hx => World.cell?_setCells_out b _ o w x (fun e => absurd e hx)
 obtain ⟨D, ⟨es, cl, hes, r1⟩, r⟩ := h.hm
 have hm : (w.setCells b o (vs.map (.int .u8))).heap[m]? = w.heap[m]? := by
  clear F out r1 r hes
  have key : ∀ (us : List Value) (o : Nat) (w : World), (w.setCells b o us).heap[m]? = w.heap[m]? := by
   intro us
   induction us with
   | nil => intro o w; rfl
   | cons u us ih => intro o w; exact (ih (o + 1) _).trans (Below.heap_setCell _ _ _ _ h.mb)
  exact key _ o w
 refine ⟨(out _ h.pb).trans h.c0, (out _ h.pb).trans h.c1, (out _ h.pb).trans h.c2, (World.frozen?_setCells b _ o w _).trans h.f1, ?_, fun i hi => (World.frozen?_setCells b _ o w _).trans (h.fb i hi), ⟨D, ⟨es, cl, hm.trans hes, r1⟩, r⟩, h.n1, h.n2, ?_, h.nb⟩
 ·intro i hi
  unfold over
  split
  ·rename_i hc
   have e : o + (i - o) = i := by omega
   have := World.cell?_setCells_in b (vs.map (.int .u8)) o w (fun j hj => by rw [h.cb (o + j) (by simp at hj; omega)]; rfl) (i - o) (by simp; omega)
   rw [e] at this
   rw [this]
   have e1 : i - o < vs.length := by omega
   simp [List.getElem?_eq_getElem e1]
  ·rename_i hc
   rw [World.cell?_setCells_out b _ o w ⟨b, i, .none⟩ (fun _ _ => by simp; omega)]
   exact h.cb i hi
 ·intro i
  unfold over
  split
  ·rename_i hc
   have e1 : i - o < vs.length := by omega
   rw [List.getD_eq_getElem?_getD, List.getElem?_eq_getElem e1]
   exact hv _ (List.getElem_mem e1)
  ·exact h.bb i
end
end Go.Proofs.YtacdgfojdkppmaaGreatDoor.Rm
