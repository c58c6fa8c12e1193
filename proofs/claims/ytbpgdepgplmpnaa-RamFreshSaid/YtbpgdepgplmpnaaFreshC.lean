import Derived.Test.YtbpgdepgplmpnaaFreshM
namespace Go.Proofs.Ytbpgdepgplmpnaa
open Go.RowKit
set_option linter.unusedVariables false
set_option linter.unusedSimpArgs false
def nnF (n0 i : Nat) : Nat := if i = 0 then n0 else 4096
def RRF (B : Nat → Int) (k i : Nat) : Nat → Int := fun j => if i = 0 then B (16384 + k + j) else if i = 1 ∨ i = 4 then B (16384 + j) else if i = 2 then B (12288 + j) else B j
def FF (k : Nat) : Int := if k = 0 then 2147495936 else if k = 1 then 2147491840 else 2147487744
def PP (k : Nat) : Int := if k = 0 then 2147483648 else 2147500032
section
variable {w : World} {p b m : Nat} {B : Nat → Int}
theorem write_row (h : Ram w p b m 5 B [3, 2, 1]) (sa : Option Addr) (n cap : Nat) (hn : n ≤ 4096) (hs : n = 0 ∨ ∃ (g k : Nat) (R : Nat → Int), sa = some ⟨g, k, .none⟩ ∧ (∀ i, 0 ≤ R i ∧ R i < 256) ∧ ∀ i, i < n → w.cell? ⟨g, k + i, .none⟩ = some (.int .u8 (R i))) :
    Calls Try.prog 14 #[.pointer (some ⟨p, 0, .none⟩), .int .u64 2147500032, .slice sa n cap] w fun e w' => e = .returned (.bool true) ∧ (∃ B', Ram w' p b m 5 B' [3, 2, 1]) ∧ Fra p b m w w' := by
  by_cases h0 : n = 0
  · subst h0
    refine (write_zero h.mem 2147500032 sa cap).mono ?_
    rintro e w' ⟨he, rfl⟩
    exact ⟨he, ⟨_, h⟩, Fra.refl _ _ _ _⟩
  · rcases hs with hs | ⟨g, k, R, rfl, hR, hc⟩
    · exact absurd hs h0
    · have := write_ok h.mem 16384 n (by omega) (by omega) (fun f h1 h2 => by
        obtain rfl : f = 4 := by omega
        rw [hdL_addr 5 [3, 2, 1] 4 (by omega)]
        decide) g k cap R hR hc
      rw [show (2147483648 + ((16384 : Nat) : Int)) = 2147500032 from rfl] at this
      refine this.mono ?_
      rintro e w' ⟨he, hm, hf⟩
      exact ⟨he, ⟨_, h.laid hm (fun j hj => .inr (by simp at hj; omega))⟩, hf⟩
def RowP (w : World) (n : Nat) (R : Nat → Int) (e : Ending) (w' : World) : Prop := ∃ q c, e = .returned (.tuple #[.slice q n c, .bool true]) ∧ w'.ownsRow w.heap.size 5 1 (.slice q n c) n (rowB n R) ∧ Below w.heap.size w w'
theorem read_row (h : Ram w p b m 5 B [3, 2, 1]) (pa : Int) (hp : 0 ≤ pa) (n k : Nat) (hk : (k : Int) = pa % 4096) (hn : n + k ≤ 4096) :
    Calls Try.prog 12 #[.pointer (some ⟨p, 0, .none⟩), .int .u64 (2147500032 + pa % 4096), .int .i64 n] w fun e w' => RowP w n (RRF B k 0) e w' := by
  by_cases h0 : n = 0
  · subst h0
    refine (read_zero h.mem (2147500032 + pa % 4096)).mono ?_
    rintro e w' ⟨he, rfl⟩
    exact ⟨.none, 0, he, World.ownsRow_nil _ _ _ _, Below.refl _ _⟩
  · have := read_own h.mem (16384 + k) n (by omega) (by omega) (fun f h1 h2 => by
      obtain rfl : f = 4 := by omega
      rw [hdL_addr 5 [3, 2, 1] 4 (by omega)]
      decide)
    rw [show (2147483648 + ((16384 + k : Nat) : Int)) = 2147500032 + pa % 4096 by omega] at this
    refine this.mono ?_
    rintro e w' ⟨g, hg1, hg2, he, hr, hf, hb, ho⟩
    exact ⟨_, _, he, own_rowB ho hr hg1, hb⟩
theorem raw_row (h : Ram w p b m 5 B [3, 2, 1]) (i : Nat) (hi : i = 3 ∨ i = 4) (R : Nat → Int) (hR : ∀ k, R k = B (i * 4096 + k)) (pa : Int) (hpa : pa = 2147483648 + i * 4096) :
    Calls Try.prog 24 #[.pointer (some ⟨p, 0, .none⟩), .int .u64 pa] w fun e w' => RowP w 4096 R e w' := by
  subst hpa
  refine (raw_own h.mem i (by omega)).mono ?_
  rintro e w' ⟨g, hg1, hg2, he, hr, hf, hb, ho⟩
  obtain rfl : R = fun k => B (i * 4096 + k) := funext hR
  exact ⟨_, _, he, own_rowB ho hr hg1, hb⟩
def ImgR (w : World) (B : Nat → Int) (k : Nat) (e : Ending) (w' : World) : Prop := ∃ qf cf q2 c2 g3 g4, e = .returned (.agg #[.int .i64 5, .slice qf 3 cf, .slice q2 2 c2]) ∧ w'.ownsRow w.heap.size 22 1 (.slice qf 3 cf) 3 [.int .u64 (FF 0), .int .u64 (FF 1), .int .u64 (FF 2)] ∧
  w'.ownsRow w.heap.size 76 2 (.slice q2 2 c2) 2 [.int .u64 (PP 0), .slice (some ⟨g3, 0, .none⟩) 4096 4096, .int .u64 (PP 1), .slice (some ⟨g4, 0, .none⟩) 4096 4096] ∧
  w'.ownsRow w.heap.size 5 1 (.slice (some ⟨g3, 0, .none⟩) 4096 4096) 4096 (rowB 4096 (RRF B k 3)) ∧ w'.ownsRow w.heap.size 5 1 (.slice (some ⟨g4, 0, .none⟩) 4096 4096) 4096 (rowB 4096 (RRF B k 4)) ∧ g3 ≠ g4 ∧ Below w.heap.size w w'
theorem data_row {W : World} {X g : Nat} {R R' : Nat → Int} (h : DataB W g R) (hX : X ≤ g) (hR : ∀ i, R i = R' i) : W.ownsRow X 5 1 (.slice (some ⟨g, 0, .none⟩) 4096 4096) 4096 (rowB 4096 R') := by
  obtain rfl : R = R' := funext hR
  exact own_rowB h.own h.row hX
theorem ff_list : [3, 2, 1].map adv = [.int .u64 (FF 0), .int .u64 (FF 1), .int .u64 (FF 2)] := by simp [adv, FF]
theorem pp0 : PP 0 = 2147483648 := rfl
theorem pp1 : PP 1 = 2147500032 := rfl
theorem adv0 : adv 0 = .int .u64 (PP 0) := by rw [pp0]; simp [adv]
theorem adv4 : adv 4 = .int .u64 (PP 1) := by rw [pp1]; simp [adv]
theorem hh_list (x2 y2 : Nat) : flatH [(0, x2), (4, y2)] = [.int .u64 (PP 0), .slice (some ⟨x2, 0, .none⟩) 4096 4096, .int .u64 (PP 1), .slice (some ⟨y2, 0, .none⟩) 4096 4096] := by
  rw [← adv0, ← adv4, flatH, flatH, flatH]
theorem held_of (hs : List (Nat × Nat)) (h : hs.map (·.1) = [0, 4]) : ∃ x2 y2, hs = [(0, x2), (4, y2)] := by
  rcases hs with _ | ⟨⟨x1, x2⟩, _ | ⟨⟨y1, y2⟩, _ | ⟨z, r⟩⟩⟩
  · simp at h
  · simp at h
  · simp only [List.map_cons, List.map_nil, List.cons.injEq, and_true] at h
    obtain ⟨rfl, rfl⟩ := h
    exact ⟨_, _, rfl⟩
  · simp at h
theorem held_two : heldTo [3, 2, 1] 5 = [0, 4] := by decide
theorem rrf3 (B : Nat → Int) (k i : Nat) : B (0 * 4096 + i) = RRF B k 3 i := by simp [RRF]
theorem rrf4 (B : Nat → Int) (k i : Nat) : B (4 * 4096 + i) = RRF B k 4 i := by simp [RRF]
theorem image_row (h : Ram w p b m 5 B [3, 2, 1]) (k : Nat) : Calls Try.prog 25 #[.pointer (some ⟨p, 0, .none⟩)] w fun e w' => ImgR w B k e w' := by
  refine (image_any h).mono ?_
  rintro e w' ⟨hs, qf, cf, q2, c2, he, hh, hf, hr, hd, hn, hb⟩
  rw [held_two] at hh
  obtain ⟨x2, y2, rfl⟩ := held_of hs hh
  have dx := hd (0, x2) (by simp)
  have dy := hd (4, y2) (by simp)
  rw [ff_list] at hf
  rw [hh_list] at hr
  refine ⟨qf, cf, q2, c2, x2, y2, he, ownsRow_base hf (by omega), ownsRow_base hr (by omega), data_row dx.2.1 (Nat.le_trans (by omega) dx.1) (rrf3 B k), data_row dy.2.1 (Nat.le_trans (by omega) dy.1) (rrf4 B k), ?_, hb⟩
  intro e
  simp [e] at hn
/-- What one turn hands out, taken together. -/
def q5 (q0 q1 q2 q3 q4 : Option Addr) (i : Nat) : Option Addr := if i = 0 then q0 else if i = 1 then q1 else if i = 2 then q2 else if i = 3 then q3 else q4
def c5 (c0 c1 c2 c3 c4 : Nat) (i : Nat) : Nat := if i = 0 then c0 else if i = 1 then c1 else if i = 2 then c2 else if i = 3 then c3 else c4
theorem turn_rows {W W1 W2 W3 W4 : World} {n k c0 c1 c2 g3 g4 : Nat} {q0 q1 q2 : Option Addr}
    (b1 : Below W.heap.size W W1) (b2 : Below W1.heap.size W1 W2) (b3 : Below W2.heap.size W2 W3) (b4 : Below W3.heap.size W3 W4)
    (r0 : W1.ownsRow W.heap.size 5 1 (.slice q0 n c0) n (rowB n (RRF B k 0))) (r1 : W2.ownsRow W1.heap.size 5 1 (.slice q1 4096 c1) 4096 (rowB 4096 (RRF B k 1))) (r2 : W3.ownsRow W2.heap.size 5 1 (.slice q2 4096 c2) 4096 (rowB 4096 (RRF B k 2)))
    (r3 : W4.ownsRow W3.heap.size 5 1 (.slice (some ⟨g3, 0, .none⟩) 4096 4096) 4096 (rowB 4096 (RRF B k 3))) (r4 : W4.ownsRow W3.heap.size 5 1 (.slice (some ⟨g4, 0, .none⟩) 4096 4096) 4096 (rowB 4096 (RRF B k 4))) (hg : g3 ≠ g4) :
    (∀ i, i < 5 → W4.ownsRow W.heap.size 5 1 (.slice (q5 q0 q1 q2 (some ⟨g3, 0, .none⟩) (some ⟨g4, 0, .none⟩) i) (nnF n i) (c5 c0 c1 c2 4096 4096 i)) (nnF n i) (rowB (nnF n i) (RRF B k i))) ∧ Apart 5 (fun i => .slice (q5 q0 q1 q2 (some ⟨g3, 0, .none⟩) (some ⟨g4, 0, .none⟩) i) (nnF n i) (c5 c0 c1 c2 4096 4096 i)) ∧ Below W.heap.size W W4 := by
  have s1 := b1.size
  have s2 := b2.size
  have s3 := b3.size
  have b34 : Below W2.heap.size W2 W4 := b3.trans (b4.mono s3)
  have b24 : Below W1.heap.size W1 W4 := b2.trans (b34.mono s2)
  have x0 := r0.lt
  have x1 := r1.lt
  have x2 := r2.lt
  have x3 := r3.lt g3 rfl
  have x4 := r4.lt g4 rfl
  have y3 : ∀ g, (Value.slice (some ⟨g3, 0, .none⟩) 4096 4096).ownBlock = some g → g3 = g := fun g e => by simpa [Value.ownBlock] using e
  have y4 : ∀ g, (Value.slice (some ⟨g4, 0, .none⟩) 4096 4096).ownBlock = some g → g4 = g := fun g e => by simpa [Value.ownBlock] using e
  refine ⟨fun i hi => ?_, fun i j hi hj hij => ?_, b1.trans (b24.mono s1)⟩
  · have : i = 0 ∨ i = 1 ∨ i = 2 ∨ i = 3 ∨ i = 4 := by omega
    rcases this with rfl | rfl | rfl | rfl | rfl
    · exact owns_below r0 b24
    · exact ownsRow_base (owns_below r1 b34) s1
    · exact ownsRow_base (owns_below r2 b4) (by omega)
    · exact ownsRow_base r3 (by omega)
    · exact ownsRow_base r4 (by omega)
  · have hi' : i = 0 ∨ i = 1 ∨ i = 2 ∨ i = 3 ∨ i = 4 := by omega
    have hj' : j = 0 ∨ j = 1 ∨ j = 2 ∨ j = 3 ∨ j = 4 := by omega
    rcases hi' with rfl | rfl | rfl | rfl | rfl <;> rcases hj' with rfl | rfl | rfl | rfl | rfl <;> first | exact absurd rfl hij | skip
    all_goals
      intro g e1 e2
      first
        | (have := x0 g e1; have := x1 g e2; omega)
        | (have := x0 g e1; have := x2 g e2; omega)
        | (have := x0 g e1; have := y3 g e2; omega)
        | (have := x0 g e1; have := y4 g e2; omega)
        | (have := x1 g e1; have := x0 g e2; omega)
        | (have := x1 g e1; have := x2 g e2; omega)
        | (have := x1 g e1; have := y3 g e2; omega)
        | (have := x1 g e1; have := y4 g e2; omega)
        | (have := x2 g e1; have := x0 g e2; omega)
        | (have := x2 g e1; have := x1 g e2; omega)
        | (have := x2 g e1; have := y3 g e2; omega)
        | (have := x2 g e1; have := y4 g e2; omega)
        | (have := y3 g e1; have := x0 g e2; omega)
        | (have := y3 g e1; have := x1 g e2; omega)
        | (have := y3 g e1; have := x2 g e2; omega)
        | (have := y3 g e1; have := y4 g e2; omega)
        | (have := y4 g e1; have := x0 g e2; omega)
        | (have := y4 g e1; have := x1 g e2; omega)
        | (have := y4 g e1; have := x2 g e2; omega)
        | (have := y4 g e1; have := y3 g e2; omega)
theorem seeF_of {W : World} {X cf : Nat} {qf : Option Addr} (hf : W.ownsRow X 22 1 (.slice qf 3 cf) 3 [.int .u64 (FF 0), .int .u64 (FF 1), .int .u64 (FF 2)]) : See W .u64 qf 3 FF := by
  obtain ⟨g, e, _, hg⟩ := row_shape hf (by omega)
  refine .inr ⟨g, 0, e, hg, fun k hk => ?_⟩
  rw [e] at hf
  rw [Nat.zero_add]
  refine (hf.cellAt k (by omega)).trans ?_
  have : k = 0 ∨ k = 1 ∨ k = 2 := by omega
  rcases this with rfl | rfl | rfl <;> rfl
theorem seeH_of {W : World} {X Y c2 g3 g4 k : Nat} {q2 : Option Addr} (hr : W.ownsRow X 76 2 (.slice q2 2 c2) 2 [.int .u64 (PP 0), .slice (some ⟨g3, 0, .none⟩) 4096 4096, .int .u64 (PP 1), .slice (some ⟨g4, 0, .none⟩) 4096 4096])
    (r3 : W.ownsRow Y 5 1 (.slice (some ⟨g3, 0, .none⟩) 4096 4096) 4096 (rowB 4096 (RRF B k 3))) (r4 : W.ownsRow Y 5 1 (.slice (some ⟨g4, 0, .none⟩) 4096 4096) 4096 (rowB 4096 (RRF B k 4))) : SeeH W q2 2 PP (fun _ => 4096) (fun j => RRF B k (3 + j)) := by
  rcases hr.2 with ⟨_, h0⟩ | ⟨g, cap, cur, e, hX, hh, r⟩
  · omega
  · injection e with e _ _
    refine .inr ⟨g, 0, e, (Array.getElem?_eq_some_iff.1 hh).1, fun k hk => ?_⟩
    rw [e] at hr
    rw [Nat.zero_add]
    have : k = 0 ∨ k = 1 := by omega
    rcases this with rfl | rfl
    · exact ⟨hr.cellAt 0 (by omega), _, _, hr.cellAt 1 (by omega), see_own r3⟩
    · exact ⟨hr.cellAt 2 (by omega), _, _, hr.cellAt 3 (by omega), see_own r4⟩
end
end Go.Proofs.Ytbpgdepgplmpnaa
