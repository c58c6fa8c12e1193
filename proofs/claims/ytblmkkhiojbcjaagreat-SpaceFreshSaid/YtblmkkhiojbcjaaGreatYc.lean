import Derived.Test.YtblmkkhiojbcjaaGreatVn
import Derived.Test.YtblmkkhiojbcjaaGreatTb
import Derived.Test.YtblmkkhiojbcjaaGreatVj
import Derived.Test.YtblmkkhiojbcjaaGreatUe
import Derived.Test.YtblmkkhiojbcjaaGreatSNo
import Derived.Test.YtblmkkhiojbcjaaGreatSMapL
namespace Go.Proofs.YtblmkkhiojbcjaaGreat
open Go Go.RowKit Go.Shelf
attribute [local go_sem] Oper.semAt_some
set_option linter.unusedVariables false
set_option linter.unusedSimpArgs false
attribute [local irreducible] eM evs
set_option maxRecDepth 100000 in
set_option maxHeartbeats 2000000 in
theorem free_all2 {w : World} {p b mm N r : Nat} {B : Nat → Int} {L : List Nat} {F : Nat → Option Nat} {lf : Nat → Nat → Int} {l : List Pg} (hR : Ram w p b mm N B L) (hP : PT N L B F lf) (hr : F 0 = some r) (hT : TL F lf l) (hnd : l.Pairwise (fun a b => a.1 ≠ b.1)) (hl : l = []) :
    Calls Tryz.prog 104 #[.pointer (some ⟨p, 0, .none⟩), .int .u64 (ad r)] w fun e w' => e = .returned (.int .i64 0) ∧ Ram w' p b mm N (thr B r (adr L)) (r :: L) ∧ Fra p b mm w w' := by
  obtain ⟨W1, hW1⟩ : ∃ W1, W1 = w.alloc (.cells #[.int .i64 0] 29) := ⟨_, rfl⟩
  have b1 : Below w.heap.size w W1 := by rw [hW1]; exact below1 _ _
  have hs1 : W1.heap.size = w.heap.size + 1 := by rw [hW1]; simp
  have q1 : W1.cell? ⟨w.heap.size, 0, .none⟩ = some (.int .i64 0) := by rw [hW1]; simp
  have q2 : W1.frozen? ⟨w.heap.size, 0, .none⟩ = false := by rw [hW1]; simp
  have hrb : 0 ≤ ad r ∧ ad r < 18446744073709551616 := by have h1 := hP.held 0 r hr; have h2 := hR.mem.n2; unfold ad; omega
  have c38 := isMade_any (hR.below b1)
  have c42 := isNode_any (hR.below b1) (ad r) hrb
  rw [hP.ndB hr] at c42
  have HR : Hid (Ram w p b mm N B L ∧ PT N L B F lf ∧ F 0 = some r ∧ TL F lf l) := ⟨hR, hP, hr, hT⟩
  have HL : Hid (LvS l (lvl (evs F lf 0))) := hT.leaves hP hnd
  have H1 : Hid (Below w.heap.size w W1 ∧ W1.heap.size = w.heap.size + 1 ∧ W1.cell? ⟨w.heap.size, 0, .none⟩ = some (.int .i64 0) ∧ W1.frozen? ⟨w.heap.size, 0, .none⟩ = false) := ⟨b1, hs1, q1, q2⟩
  clear hR hP hr hT hnd b1 hs1 q1 q2 hrb
  refine (callsIn_wide (n := 3)).1 ?_
  refine callsIn_of_wp_marks Tryz.func104 rfl trivial ?_ rfl
  refine wpIn_wide.2 ?_
  simp only [Tryz.ntmps104, List.size_toArray, List.length_cons, List.length_nil, Nat.reduceAdd, Nat.reduceSub, Array.replicate_succ, Array.replicate_zero, List.push_toArray, List.append_toArray, List.nil_append, List.cons_append]
  go_wp2_with fail
  rw [← hW1]
  clear hW1
  go_wp2_with (first | (go_at_call 111; refine c38.mono ?_; rintro _ w2 ⟨rfl, e2⟩; obtain rfl : W1 = w2 := e2.symm; clear e2) | (go_at_call 93; refine c42.mono ?_; rintro _ w3 ⟨rfl, b3⟩; have H3 : Hid (Below W1.heap.size W1 w3) := b3; clear b3 c38 c42))
  obtain ⟨V, hV⟩ : ∃ V, V = (w3.alloc (.cells #[.pointer (some ⟨p, 0, .none⟩)] 25)).alloc (.cells #[.int .u64 (ad r)] 23) := ⟨_, rfl⟩
  have bV : Below w3.heap.size w3 V := by rw [hV]; exact ((Below.refl _ _).alloc (Nat.le_refl _) _).alloc (by simp) _
  have sV : V.heap.size = w3.heap.size + 2 := by rw [hV]; simp
  have v1 : V.cell? ⟨w3.heap.size, 0, .none⟩ = some (.pointer (some ⟨p, 0, .none⟩)) := by rw [hV]; simp
  have v2 : V.cell? ⟨w3.heap.size + 1, 0, .none⟩ = some (.int .u64 (ad r)) := by rw [hV]; simp
  have s3 : w.heap.size + 1 ≤ w3.heap.size := by have := H3.out.size; have := H1.out.2.1; omega
  have B3 : Below w.heap.size w V := (H1.out.1.trans (H3.out.mono H1.out.1.size)).trans (bV.mono (by omega))
  have r1 : V.cell? ⟨w.heap.size, 0, .none⟩ = some (.int .i64 0) := (bV.cell (p := ⟨w.heap.size, 0, .none⟩) (by simp only; omega)).trans ((H3.out.cell (p := ⟨w.heap.size, 0, .none⟩) (by have := H1.out.2.1; simp only; omega)).trans H1.out.2.2.1)
  have r2 : V.frozen? ⟨w.heap.size, 0, .none⟩ = false := (bV.frozen (p := ⟨w.heap.size, 0, .none⟩) (by simp only; omega)).trans ((H3.out.frozen (p := ⟨w.heap.size, 0, .none⟩) (by have := H1.out.2.1; simp only; omega)).trans H1.out.2.2.2)
  have hseq := fun n => leaves_seq (HR.out.1.below B3) HR.out.2.1 HR.out.2.2.1 n _ _ v1 v2
  have c21 := leaves_any p (ad r) w3
  rw [← hV] at c21
  have hc : w.heap.size < V.heap.size := by omega
  have HV : Hid ((∀ n, SeqK n 98 #[.pointer (some ⟨w3.heap.size, 0, .none⟩), .pointer (some ⟨w3.heap.size + 1, 0, .none⟩)] lvE (lvl (evs F lf 0)) p b mm V) ∧ Below w.heap.size w V ∧ V.cell? ⟨w.heap.size, 0, .none⟩ = some (.int .i64 0) ∧ V.frozen? ⟨w.heap.size, 0, .none⟩ = false ∧ p < w.heap.size ∧ b < w.heap.size ∧ mm < w.heap.size) := ⟨hseq, B3, r1, r2, HR.out.1.mem.plt, HR.out.1.mem.blt, HR.out.1.mem.mlt⟩
  clear hseq B3 r1 r2 sV s3 hV bV v1 v2 H1 H3
  go_wp2_with (go_at_call 61; refine c21.mono ?_; rintro _ w5 ⟨rfl, e5⟩; obtain rfl : V = w5 := e5.symm; clear e5 c21)
  refine (wpIn_wide (n := 3)).1 (range_K (α := Int × Int) (by omega) (gf := 98) (lb := #[.pointer (some ⟨w3.heap.size, 0, .none⟩), .pointer (some ⟨w3.heap.size + 1, 0, .none⟩)]) rfl (enters_of Tryz.func98 (by kernel_rfl) rfl) (Below.refl _ _) (HV.out.1 2) (by have := HV.out; omega) (fun _ => rfl)
    (FrI V w.heap.size) (fun k _ => V.heap.size ≤ k) (FrI.own hc) (FrI.gd hc) (fun s k W l o o' h hk _ _ _ _ => hk) ⟨rfl, ⟨Nat.le_refl _, rfl, rfl, rfl, fun _ _ _ => rfl⟩, rfl⟩ (FrX V w.heap.size) (fun pre W l o o' h hl _ _ => h.put hc o' hl) (fun _ _ _ h hm => h.mv hc hm) (fun s k W l o o' h hk _ _ _ _ => hk)
    (fun x a' W => a' = { tmps := #[.pointer (some ⟨p, 0, .none⟩), .int .u64 (ad r), undef, undef, .pointer (some ⟨w.heap.size, 0, .none⟩), undef, undef, .bool false, .pointer (some ⟨p, 0, .none⟩), .bool true, .bool false, .bool false, .pointer (some ⟨p, 0, .none⟩), .int .u64 (ad r), .bool true, .bool false, .pointer (some ⟨p, 0, .none⟩), .int .u64 (ad r), .func (.func 98) #[] #[.pointer (some ⟨w3.heap.size, 0, .none⟩), .pointer (some ⟨w3.heap.size + 1, 0, .none⟩)], .int .u64 x.1, .int .u64 x.2, undef, undef, undef, undef, undef, undef, undef, undef, undef, undef, undef, undef], defers := [] }) (fun x a' W l o o' h _ _ _ => h) ?assign ?body ?done ?left)
  case assign =>
    intro l' x U K hU hK
    simp only [lvE]
    gi_wp2
    exact hK _ _ (Below.refl _ _) rfl
  case left =>
    rintro D U pre hD hpre hX hDd
    refine absurd ?_ hX.1
    have h1 := HL.out.len
    have h2 := hpre.length_le
    rw [hl] at h1
    simp at h1
    rw [h1] at h2
    exact List.length_eq_zero_iff.1 (by simpa using h2)
  case body =>
    rintro l' pre x a' U hI rfl hlen
    obtain ⟨rfl, hS, hc4⟩ := hI
    have q1 := (World.cell?_of_block (a := ⟨w.heap.size, 0, .none⟩) hc4).trans HV.out.2.2.1
    have q2 := (World.frozen?_of_block (a := ⟨w.heap.size, 0, .none⟩) hc4).trans HV.out.2.2.2.1
    have kb : ∀ k, k ≠ w.heap.size → (U.setCell ⟨w.heap.size, 0, .none⟩ (.int .i64 87)).heap[k]? = U.heap[k]? := fun k hk => Below.heap_setCell _ _ _ k hk
    have sz : (U.setCell ⟨w.heap.size, 0, .none⟩ (.int .i64 87)).heap.size = U.heap.size := by simp
    have HE : Hid (KeepsFrom V.heap.size U (U.setCell ⟨w.heap.size, 0, .none⟩ (.int .i64 87)) ∧ KpG (fun k _ => V.heap.size ≤ k) p b mm U (U.setCell ⟨w.heap.size, 0, .none⟩ (.int .i64 87)) ∧ FrX V w.heap.size ([] ++ [x]) (U.setCell ⟨w.heap.size, 0, .none⟩ (.int .i64 87))) := by
      have hp := HV.out.2.2.2.2
      refine ⟨⟨by omega, fun k o hk ho _ => (kb k (by omega)).trans ho⟩, ⟨fun k o hk ho => ⟨(kb k (by omega)).trans ho, hk⟩, kb p (by omega), kb b (by omega), kb mm (by omega), by omega⟩, by simp, ⟨by rw [sz]; exact hS.size, hS.os, hS.tape, hS.output, fun k hk hn => (kb k hn).trans (hS.block k hk hn)⟩, World.cell?_setCell_same' _ _ _ (by rw [q1]; rfl)⟩
    clear hS hc4 kb sz hlen
    gi_wp2
    exact HE.out
  case done =>
    rintro D U hD hI hDd
    obtain ⟨_, hS, hc4⟩ := hI
    have hBU := hS.below HV.out.2.1 (Nat.le_refl _)
    have q1 := (World.cell?_of_block (a := ⟨w.heap.size, 0, .none⟩) hc4).trans HV.out.2.2.1
    have q2 := (World.frozen?_of_block (a := ⟨w.heap.size, 0, .none⟩) hc4).trans HV.out.2.2.2.1
    have hnl : ndl r (evs F lf 0) = [ad r] := by
      have := HR.out.2.2.2.nodes HR.out.2.1 r
      rw [hl] at this
      have h1 : (ndl r (evs F lf 0)).length = 1 := this
      unfold ndl at h1 ⊢
      rw [List.length_cons] at h1
      rw [List.length_eq_zero_iff.1 (Nat.succ.inj h1)]
    have c12 := nodes_any (HR.out.1.below hBU) HR.out.2.1 HR.out.2.2.1
    rw [hnl] at c12
    have hDU : D < U.heap.size := (Array.getElem?_eq_some_iff.1 hDd).1
    have HD : Hid (Below w.heap.size w U ∧ D < U.heap.size ∧ w.heap.size < D ∧ U.heap[D]? = some (.deferred (some [])) ∧ U.cell? ⟨w.heap.size, 0, .none⟩ = some (.int .i64 0) ∧ U.frozen? ⟨w.heap.size, 0, .none⟩ = false) := ⟨hBU, hDU, by omega, hDd, q1, q2⟩
    clear hS hc4 hBU q1 q2 hnl hDU hDd hD HL hl
    dsimp only
    go_wp2_with (first | (go_at_call 59; refine c12.mono ?_; rintro _ w7 ⟨g7, c7, rfl, own7, b7⟩; clear c12))
    obtain ⟨hr1, hrN, hrL⟩ := HR.out.2.1.held 0 r HR.out.2.2.1
    have BU := HD.out.1
    have c52 : Calls Tryz.prog 35 #[.pointer (some ⟨p, 0, .none⟩), .int .u64 (ad r)] w7 fun e w' => e = .returned (.int .i64 0) ∧ Ram w' p b mm N (thr B r (adr L)) (r :: L) ∧ Fra p b mm w7 w' := free_held r ((HR.out.1.below BU).below b7) hr1 hrN hrL
    have e0 : w7.cell? ⟨g7, 0, .none⟩ = some (.int .u64 (ad r)) := by
      exact own7.cellAt 0 (by simp)
    have h7 : Below w.heap.size w w7 := BU.trans (b7.mono BU.size)
    have q7 := (b7.cell (p := ⟨w.heap.size, 0, .none⟩) (by have := HD.out; simp only; omega)).trans HD.out.2.2.2.2.1
    have q8 := (b7.frozen (p := ⟨w.heap.size, 0, .none⟩) (by have := HD.out; simp only; omega)).trans HD.out.2.2.2.2.2
    have d7 := (b7.block D HD.out.2.1).trans HD.out.2.2.2.1
    have HW : Hid (Below w.heap.size w w7 ∧ w7.cell? ⟨w.heap.size, 0, .none⟩ = some (.int .i64 0) ∧ w7.frozen? ⟨w.heap.size, 0, .none⟩ = false ∧ w7.heap[D]? = some (.deferred (some [])) ∧ w.heap.size < D ∧ D < w7.heap.size) := ⟨h7, q7, q8, d7, HD.out.2.2.1, Nat.lt_of_lt_of_le HD.out.2.1 b7.size⟩
    clear own7 b7 BU h7 q7 q8 d7 HD hr1 hrN hrL
    go_loopw [25] (fun v wr => (v = .int .i64 0 ∧ wr = w7) ∨ (v = .int .i64 1 ∧ Hid (Ram wr p b mm N (thr B r (adr L)) (r :: L) ∧ Fra p b mm w7 wr))) (fun v _ => (1 - intOf v).toNat)
    case atStart => exact .inl ⟨rfl, rfl⟩
    case round =>
      rcases hrel with ⟨rfl, rfl⟩ | ⟨rfl, HF⟩
      · go_wp2_with (first | (go_at_call 35; refine c52.mono ?_; rintro _ w8 ⟨rfl, k8, f8⟩; have HF : Hid (Ram w8 p b mm N (thr B r (adr L)) (r :: L) ∧ Fra p b mm wr w8) := ⟨k8, f8⟩; clear k8 f8 c52))
        exact ⟨.inr ⟨rfl, HF⟩, by simp [intOf]⟩
      · obtain ⟨h7, q7, q8, d7, hwD, hD7⟩ := HW.out
        have hp := HV.out.2.2.2.2
        have f8 := HF.out.2
        have x1 := (f8.cell (x := ⟨w.heap.size, 0, .none⟩) (by simp only; omega) (by simp only; omega) (by simp only; omega) (by simp only; omega)).trans q7
        have x2 := (f8.frozen (x := ⟨w.heap.size, 0, .none⟩) (by simp only; omega) (by simp only; omega) (by simp only; omega) (by simp only; omega)).trans q8
        have x3 := (f8.block D hD7 (by omega) (by omega) (by omega)).trans d7
        have x4 : (wr.setCell ⟨w.heap.size, 0, .none⟩ (.int .i64 0)).heap[D]? = some (.deferred (some [])) := (Below.heap_setCell _ _ _ D (by simp only; omega)).trans x3
        obtain ⟨X, hX⟩ : ∃ X, X = (wr.setCell ⟨w.heap.size, 0, .none⟩ (.int .i64 0)).putObj D (.deferred none) := ⟨_, rfl⟩
        have y1 : X.cell? ⟨w.heap.size, 0, .none⟩ = some (.int .i64 0) := by
          rw [hX]
          exact (World.cell?_of_block (a := ⟨w.heap.size, 0, .none⟩) (World.putObj_heap_other (by simp only; omega))).trans (World.cell?_setCell_same' _ _ _ (by rw [x1]; rfl))
        have kb : ∀ k, k ≠ D → k ≠ w.heap.size → X.heap[k]? = wr.heap[k]? := fun k h1 h2 => by rw [hX]; exact (World.putObj_heap_other h1).trans (Below.heap_setCell _ _ _ k h2)
        have HE : Hid (Ram X p b mm N (thr B r (adr L)) (r :: L) ∧ Fra p b mm w X) := by
          have hR8 := HF.out.1
          have hs7 := h7.size
          refine ⟨⟨hR8.mem.keep (kb p (by omega) (by omega)) (kb b (by omega) (by omega)) (kb mm (by omega) (by omega)), hR8.nd, hR8.lt, hR8.thr⟩, ⟨?_, ?_, ?_, ?_, fun k hk h1 h2 h3 => (kb k (by omega) (by omega)).trans ((f8.block k (by omega) h1 h2 h3).trans (h7.block k hk))⟩⟩
          · rw [hX]; exact f8.os.trans h7.os
          · rw [hX]; exact f8.tape.trans h7.tape
          · rw [hX]; exact f8.output.trans h7.output
          · rw [hX]; simp [World.putObj]; exact Nat.le_trans h7.size f8.size
        clear kb f8 HF d7 q7 q8 h7
        go_wp2
        refine ⟨by simp, .inl ⟨_, _, rfl, run_takeDeferred x4, ?_⟩⟩
        rw [← hX]
        exact ⟨.int .i64 0, by simp [results, Tryz.results104, go_sem, y1], rfl, HE.out⟩
/-- A frame that is nobody's of the table F, and none of the free ones. -/
def Els (L : List Nat) (F : Nat → Option Nat) (f : Nat) : Prop := f ∉ L ∧ ∀ x, F x ≠ some f
/-- The bytes of the frame that is somebody else's. -/
def mn (k : Nat) : Int := if k = 0 then 109 else if k = 1 then 105 else if k = 2 then 110 else if k = 3 then 101 else 0
def Min (N : Nat) (B : Nat → Int) (L : List Nat) (fm : Nat) : Prop := 1 ≤ fm ∧ fm < N ∧ fm ∉ L ∧ ∀ k, k < 8 → B (fm * 4096 + k) = mn k
/-- A table beside which a frame is somebody's. -/
structure On (N : Nat) (B : Nat → Int) (L : List Nat) (F : Nat → Option Nat) (lf : Nat → Nat → Int) (r : Nat) (l : List Pg) : Prop where
  pt : PT N L B F lf
  rt : F 0 = some r
  tl : TL F lf l
  pw : l.Pairwise (fun a b => a.1 ≠ b.1)
theorem On.keep {N : Nat} {B B' : Nat → Int} {L L' : List Nat} {F : Nat → Option Nat} {lf : Nat → Nat → Int} {r : Nat} {l : List Pg} (h : On N B L F lf r l) (hB : ∀ x f, F x = some f → ∀ k, k < 4096 → B' (f * 4096 + k) = B (f * 4096 + k)) (hL : ∀ x f, F x = some f → f ∉ L') : On N B' L' F lf r l :=
  ⟨h.pt.keep hB hL, h.rt, h.tl, h.pw⟩
/-- Two tables in one memory, and a frame that is neither's. -/
def Tw (p b m ra rb fm : Nat) (la lb : List Pg) (W : World) : Prop :=
  ∃ B L Fa lfa Fb lfb, Ram W p b m 64 B L ∧ On 64 B L Fa lfa ra la ∧ On 64 B L Fb lfb rb lb ∧ (∀ x y f, Fa x = some f → Fb y ≠ some f) ∧ Min 64 B L fm ∧ (∀ x, Fa x ≠ some fm) ∧ (∀ x, Fb x ≠ some fm)
section
variable {p b m ra rb fm : Nat} {la lb : List Pg} {W : World}
theorem Tw.symm (h : Tw p b m ra rb fm la lb W) : Tw p b m rb ra fm lb la W := by
  obtain ⟨B, L, Fa, lfa, Fb, lfb, h1, h2, h3, h4, h5, h6, h7⟩ := h
  exact ⟨B, L, Fb, lfb, Fa, lfa, h1, h3, h2, fun x y f hx hy => h4 y x f hy hx, h5, h7, h6⟩
theorem Tw.below {W' : World} (h : Tw p b m ra rb fm la lb W) (k : Below W.heap.size W W') : Tw p b m ra rb fm la lb W' := by
  obtain ⟨B, L, Fa, lfa, Fb, lfb, h1, h2⟩ := h
  exact ⟨B, L, Fa, lfa, Fb, lfb, h1.below k, h2⟩
theorem Tw.blocks {W' : World} (h : Tw p b m ra rb fm la lb W) (h1 : W'.heap[p]? = W.heap[p]?) (h2 : W'.heap[b]? = W.heap[b]?) (h3 : W'.heap[m]? = W.heap[m]?) : Tw p b m ra rb fm la lb W' := by
  obtain ⟨B, L, Fa, lfa, Fb, lfb, k1, k2⟩ := h
  exact ⟨B, L, Fa, lfa, Fb, lfb, ⟨k1.mem.keep h1 h2 h3, k1.nd, k1.lt, k1.thr⟩, k2⟩
theorem Tw.lt (h : Tw p b m ra rb fm la lb W) : p < W.heap.size ∧ b < W.heap.size ∧ m < W.heap.size := by
  obtain ⟨B, L, Fa, lfa, Fb, lfb, h1, h2⟩ := h
  exact ⟨h1.mem.plt, h1.mem.blt, h1.mem.mlt⟩
theorem Tw.ok (h : Tw p b m ra rb fm la lb W) : (∀ x ∈ la, okP x) ∧ la.Pairwise (fun a b => a.1 ≠ b.1) := by
  obtain ⟨B, L, Fa, lfa, Fb, lfb, h1, h2, _⟩ := h
  exact ⟨h2.tl.ok, h2.pw⟩
/-- What Map in one of two comes to. -/
def MwP (p b m ra rb fm : Nat) (la lb : List Pg) (x : Pg) (W : World) (e : Ending) (w' : World) : Prop :=
  ∃ v : Int, e = .returned (.int .i64 v) ∧ ((v ≠ 0 ∧ Below W.heap.size W w') ∨ (v = 0 ∧ Tw p b m ra rb fm (la ++ [x]) lb w' ∧ Fra p b m W w'))
theorem Tw.map (h : Tw p b m ra rb fm la lb W) (x : Pg) (hx : okP x) (hmp : (!ho x.2.2 18446744073709551361 && ho x.2.2 10 && (!hs x.2.2 4 || hs x.2.2 2)) = true) : Calls Tryz.prog 86 #[.pointer (some ⟨p, 0, .none⟩), .int .u64 (ad ra), .int .u64 x.1, .int .u64 x.2.1, .int .u64 x.2.2] W (MwP p b m ra rb fm la lb x W) := by
  obtain ⟨B, L, Fa, lfa, Fb, lfb, h1, h2, h3, h4, h5, h6, h7⟩ := h
  refine (map_full h1 h2.pt h2.rt x hx hmp).mono fun e w' hM => ?_
  rcases hM with ⟨k1, k2, k3⟩ | ⟨k1, k2, k3, k4⟩ | ⟨k1, k2, k3, B', L', F', k4, k5, k6, k7⟩
  · exact ⟨84, k2, .inl ⟨by omega, k3⟩⟩
  · exact ⟨85, k3, .inl ⟨by omega, k4⟩⟩
  · have hnone : ∀ y ∈ la, y.1 ≠ x.1 := by
      intro y hy he
      have := h2.tl.leaf y hy
      rw [he, k1] at this
      exact (h2.tl.ok y hy).ne this.symm
    have hels : ∀ f, f ∉ L → (∀ z, Fa z ≠ some f) → ∀ z, F' z ≠ some f := fun f e1 e2 z hz => by
      rcases k4.new z f hz with e3 | ⟨e3, _⟩
      · exact e2 z e3
      · exact e1 e3
    refine ⟨0, k3, .inr ⟨rfl, ⟨B', L', F', _, Fb, lfb, k6, ⟨k4.pt, k4.ext 0 ra h2.rt, h2.tl.map hx hnone k4, ?_⟩, ?_, ?_, ?_, hels fm h5.2.2.1 h6, h7⟩, k7⟩⟩
    · rw [List.pairwise_append]
      exact ⟨h2.pw, by simp, fun a ha c hc => by rw [List.mem_singleton] at hc; rw [hc]; exact hnone a ha⟩
    · exact h3.keep (fun z f hf k hk => k4.byt f (hels f (h3.pt.held z f hf).2.2 (fun y e => h4 y z f e hf)) k hk) (fun z f hf hm => (h3.pt.held z f hf).2.2 (k4.sub f hm))
    · exact fun z y f hz hy => hels f (h3.pt.held y f hy).2.2 (fun z e => h4 z y f e hy) z hz
    · exact ⟨h5.1, h5.2.1, fun hm => h5.2.2.1 (k4.sub fm hm), fun k hk => (k4.byt fm (hels fm h5.2.2.1 h6) k (by omega)).trans (h5.2.2.2 k hk)⟩
theorem Tw.unmap (h : Tw p b m ra rb fm la lb W) {y : Pg} (hy : y ∈ la) {lm : List Pg} (hm : ∀ z, z ∈ lm ↔ z ∈ la ∧ z ≠ y) (hpw : lm.Pairwise (fun a b => a.1 ≠ b.1)) : Calls Tryz.prog 88 #[.pointer (some ⟨p, 0, .none⟩), .int .u64 (ad ra), .int .u64 y.1] W fun e w' => e = .returned (.tuple #[.int .u64 (toP y.2.1 y.2.2), .int .i64 0]) ∧ Tw p b m ra rb fm lm lb w' ∧ Fra p b m W w' := by
  obtain ⟨B, L, Fa, lfa, Fb, lfb, h1, h2, h3, h4, h5, h6, h7⟩ := h
  have hok := h2.tl.ok y hy
  have hlf := h2.tl.leaf y hy
  refine (unmap_byt h1 h2.pt h2.rt y.1 hok.1 (by rw [hlf]; exact hok.ne)).mono fun e w' hU => ?_
  obtain ⟨he, g, q, B', L', F', lf', e1, e2, e3, e4, e5, e6, e7⟩ := hU
  rw [hlf] at he
  have hy0 := y0_ge y.1
  have hy1 := y1_le y.1
  have hsub : ∀ z f, F' z = some f → Fa z = some f := fun z f hz => by
    rcases e4 with ⟨_, rfl, _⟩ | ⟨_, rfl, _⟩ | ⟨_, rfl, _⟩
    · exact hz
    · unfold setN at hz
      split at hz
      · cases hz
      · exact hz
    · unfold setN at hz
      split at hz
      · cases hz
      · split at hz
        · cases hz
        · exact hz
  have hL : ∀ f, f ∉ L → (∀ z, Fa z ≠ some f) → f ∉ L' := fun f i1 i2 i3 => by
    rcases e4 with ⟨rfl, _⟩ | ⟨rfl, _⟩ | ⟨rfl, _⟩
    · exact i1 i3
    · rcases List.mem_cons.1 i3 with i4 | i4
      · exact i2 _ (by rw [i4]; exact e2)
      · exact i1 i4
    · rcases List.mem_cons.1 i3 with i4 | i4
      · exact i2 _ (by rw [i4]; exact e1)
      · rcases List.mem_cons.1 i4 with i4 | i4
        · exact i2 _ (by rw [i4]; exact e2)
        · exact i1 i4
  refine ⟨he, ⟨B', L', F', lf', Fb, lfb, e5, ⟨e3, ?_, h2.tl.unmap hy hm e4, hpw⟩, ?_, fun z y f hz hy => h4 z y f (hsub z f hz) hy, ⟨h5.1, h5.2.1, hL fm h5.2.2.1 h6, fun k hk => (e7 fm h6 k (by omega)).trans (h5.2.2.2 k hk)⟩, fun z hz => h6 z (hsub z fm hz), h7⟩, e6⟩
  · rcases e4 with ⟨_, rfl, _⟩ | ⟨_, rfl, _⟩ | ⟨_, rfl, _⟩
    · exact h2.rt
    · unfold setN; rw [if_neg (by omega)]; exact h2.rt
    · unfold setN; rw [if_neg (by omega), if_neg (by omega)]; exact h2.rt
  · exact h3.keep (fun z f hf k hk => e7 f (fun y e => h4 y z f e hf) k hk) (fun z f hf => hL f (h3.pt.held z f hf).2.2 (fun y e => h4 y z f e hf))
/-- Unmap of a page that may have gone already: it is gone behind it. -/
theorem Tw.unmapNone (h : Tw p b m ra rb fm la lb W) (va : Int) (hv : 0 ≤ va ∧ va < 274877906944 ∧ va % 4096 = 0) (hn : ∀ x ∈ la, x.1 ≠ va) : Calls Tryz.prog 88 #[.pointer (some ⟨p, 0, .none⟩), .int .u64 (ad ra), .int .u64 va] W fun e w' => e = .returned (.tuple #[.int .u64 0, .int .i64 86]) ∧ Below W.heap.size W w' := by
  obtain ⟨B, L, Fa, lfa, Fb, lfb, h1, h2, _⟩ := h
  exact unmap_none h1 h2.pt h2.rt va hv (h2.tl.none_at va hv hn)
/-- One table, and a frame that is not its. -/
def Tn (p b m rb fm : Nat) (lb : List Pg) (W : World) : Prop := ∃ B L Fb lfb, Ram W p b m 64 B L ∧ On 64 B L Fb lfb rb lb ∧ Min 64 B L fm
theorem Tn.below {W' : World} (h : Tn p b m rb fm lb W) (k : Below W.heap.size W W') : Tn p b m rb fm lb W' := by
  obtain ⟨B, L, Fb, lfb, h1, h2⟩ := h
  exact ⟨B, L, Fb, lfb, h1.below k, h2⟩
theorem Tw.freeAll (h : Tw p b m ra rb fm [] lb W) : Calls Tryz.prog 104 #[.pointer (some ⟨p, 0, .none⟩), .int .u64 (ad ra)] W fun e w' => e = .returned (.int .i64 0) ∧ Tn p b m rb fm lb w' ∧ Fra p b m W w' := by
  obtain ⟨B, L, Fa, lfa, Fb, lfb, h1, h2, h3, h4, h5, h6, h7⟩ := h
  refine (free_all2 h1 h2.pt h2.rt h2.tl h2.pw rfl).mono fun e w' ⟨k1, k2, k3⟩ => ⟨k1, ⟨_, _, Fb, lfb, k2, ?_, h5.1, h5.2.1, ?_, ?_⟩, k3⟩
  · refine h3.keep (fun z f hf k hk => thr_frame _ _ (fun e => h4 0 z f (by rw [e]; exact h2.rt) hf) k hk) (fun z f hf hm => ?_)
    rcases List.mem_cons.1 hm with e | e
    · exact h4 0 z f (by rw [e]; exact h2.rt) hf
    · exact (h3.pt.held z f hf).2.2 e
  · intro hm
    rcases List.mem_cons.1 hm with e | e
    · exact h6 0 (by rw [e]; exact h2.rt)
    · exact h5.2.2.1 e
  · exact fun k hk => (thr_frame _ _ (fun e => h6 0 (by rw [e]; exact h2.rt)) k (by omega)).trans (h5.2.2.2 k hk)
theorem Tn.read (h : Tn p b m rb fm lb W) : Calls Tryz.prog 55 #[.pointer (some ⟨p, 0, .none⟩), .int .u64 (ad fm), .int .i64 8] W fun e w' => ReadP W 8 mn e w' := by
  obtain ⟨B, L, Fb, lfb, h1, h2, h3⟩ := h
  have := read_ok h1.mem (fm * 4096) 8 (by omega) (by have := h3.2.1; omega) (fun f e1 e2 => by
    obtain rfl : f = fm := by omega
    rw [hdL_in h3.2.1]
    simpa using h3.2.2.1)
  refine Calls.mono (by
    have e : ad fm = 2147483648 + ((fm * 4096 : Nat) : Int) := by unfold ad; omega
    rw [e]
    exact this) fun e w' h => ?_
  obtain ⟨g, k1, k2, k3, k4, k5, k6⟩ := h
  refine ⟨g, k1, k2, k3, ?_, k5, k6⟩
  intro i hi
  have := k4 i hi
  rw [this]
  simp only
  rw [h3.2.2.2 i hi]
end
end Go.Proofs.YtblmkkhiojbcjaaGreat
namespace Go.Proofs.YtblmkkhiojbcjaaGreat
open Go.RowKit
set_option linter.unusedVariables false
set_option linter.unusedSimpArgs false
/-- A space's three cells. -/
structure Sp (w : World) (s p : Nat) (root size : Int) : Prop where
  c0 : w.cell? ⟨s, 0, .none⟩ = some (.pointer (some ⟨p, 0, .none⟩))
  c1 : w.cell? ⟨s, 1, .none⟩ = some (.int .u64 root)
  c2 : w.cell? ⟨s, 2, .none⟩ = some (.int .u64 size)
  fr : ∀ k, w.frozen? ⟨s, k, .none⟩ = false
theorem Sp.lt {w : World} {s p : Nat} {root size : Int} (h : Sp w s p root size) : s < w.heap.size := lt_of_cell h.c0
theorem Sp.below {w w' : World} {s p : Nat} {root size : Int} (h : Sp w s p root size) (b : Below w.heap.size w w') : Sp w' s p root size :=
  ⟨(b.cell (p := ⟨s, 0, .none⟩) h.lt).trans h.c0, (b.cell (p := ⟨s, 1, .none⟩) h.lt).trans h.c1, (b.cell (p := ⟨s, 2, .none⟩) h.lt).trans h.c2, fun k => (b.frozen (p := ⟨s, k, .none⟩) h.lt).trans (h.fr k)⟩
theorem Sp.fra {w w' : World} {s p b m : Nat} {root size : Int} (h : Sp w s p root size) (f : Fra p b m w w') (h1 : s ≠ p) (h2 : s ≠ b) (h3 : s ≠ m) : Sp w' s p root size :=
  ⟨(f.cell (x := ⟨s, 0, .none⟩) h.lt h1 h2 h3).trans h.c0, (f.cell (x := ⟨s, 1, .none⟩) h.lt h1 h2 h3).trans h.c1, (f.cell (x := ⟨s, 2, .none⟩) h.lt h1 h2 h3).trans h.c2, fun k => (f.frozen (x := ⟨s, k, .none⟩) h.lt h1 h2 h3).trans (h.fr k)⟩
theorem made_sp {w : World} {s p : Nat} {root size : Int} (h : Sp w s p root size) : Calls Tryz.prog 43 #[.pointer (some ⟨s, 0, .none⟩)] w fun e w' => e = .returned (.bool true) ∧ w' = w := by
  have c0 := h.c0
  clear h
  go_enter Tryz.func43, Tryz.ntmps43
  go_wp2
  go_ret
  exact ⟨rfl, rfl⟩
theorem size_sp {w : World} {s p : Nat} {root size : Int} (h : Sp w s p root size) : Calls Tryz.prog 10 #[.pointer (some ⟨s, 0, .none⟩)] w fun e w' => e = .returned (.int .u64 size) ∧ w' = w := by
  have c0 := h.c0
  have c2 := h.c2
  have c33 := made_sp h
  clear h
  go_enter Tryz.func10, Tryz.ntmps10
  go_wp2_with (go_at_call 43; refine c33.mono ?_; rintro _ w1 ⟨rfl, e1⟩; obtain rfl : w = w1 := e1.symm)
  go_ret
  exact ⟨rfl, rfl⟩
theorem pagesOf_any (x : Int) (h : 0 ≤ x ∧ x ≤ 1099511627776) (w : World) : Calls Tryz.prog 46 #[.int .u64 x] w fun e w' => e = .returned (.int .i64 ((x + 4095) / 4096)) ∧ w' = w := by
  have h1 : IntKind.u64.wrap (x + 4096) = x + 4096 := by rw [IntKind.wrap_u64]; omega
  have h2 : IntKind.u64.wrap (x + 4096 - 1) = x + 4095 := by rw [IntKind.wrap_u64]; omega
  go_enter Tryz.func46, Tryz.ntmps46
  go_wp2
  go_ret
  exact ⟨rfl, rfl⟩
theorem pages_sp {w : World} {s p : Nat} {root size : Int} (h : Sp w s p root size) (hs : 0 ≤ size ∧ size ≤ 1099511627776) : Calls Tryz.prog 19 #[.pointer (some ⟨s, 0, .none⟩)] w fun e w' => e = .returned (.int .i64 ((size + 4095) / 4096)) ∧ w' = w := by
  have c13 := size_sp h
  have c119 := pagesOf_any size hs w
  clear h
  go_enter Tryz.func19, Tryz.ntmps19
  go_wp2_with first | (go_at_call 10; refine c13.mono ?_; rintro _ w1 ⟨rfl, e1⟩; obtain rfl : w = w1 := e1.symm) | (go_at_call 46; refine c119.mono ?_; rintro _ w1 ⟨rfl, e1⟩; obtain rfl : w = w1 := e1.symm)
  go_ret
  exact ⟨rfl, rfl⟩
theorem addrOf_any (k : Int) (h : 0 ≤ k ∧ k ≤ 268435456) (w : World) : Calls Tryz.prog 87 #[.int .i64 k] w fun e w' => e = .returned (.int .u64 (k * 4096)) ∧ w' = w := by
  have h1 : IntKind.u64.wrap k = k := by rw [IntKind.wrap_u64]; omega
  have h2 : IntKind.u64.wrap (k * 4096) = k * 4096 := by rw [IntKind.wrap_u64]; omega
  go_enter Tryz.func87, Tryz.ntmps87
  go_wp2
  go_ret
  exact ⟨rfl, rfl⟩
theorem frameOf_any (e : Int) (h : 0 ≤ e ∧ e < 18014398509481984) (w : World) : Calls Tryz.prog 62 #[.int .u64 e] w fun r w' => r = .returned (.int .u64 (e / 1024 * 4096)) ∧ w' = w := by
  have h2 : IntKind.u64.wrap (e / 1024 * 4096) = e / 1024 * 4096 := by rw [IntKind.wrap_u64]; omega
  go_enter Tryz.func62, Tryz.ntmps62
  go_wp2
  go_ret
  exact ⟨rfl, rfl⟩
theorem fits_any (va n en : Int) (hv : 0 ≤ va ∧ va < 18446744073709551616) (hn : 0 ≤ n ∧ n < 9223372036854775808) (he : va ≤ en ∧ en < 18446744073709551616) (hf : n ≤ en - va) (w : World) : Calls Tryz.prog 50 #[.int .u64 va, .int .i64 n, .int .u64 en] w fun r w' => r = .returned (.bool true) ∧ w' = w := by
  have h1 : IntKind.u64.wrap n = n := by rw [IntKind.wrap_u64]; omega
  have h2 : IntKind.u64.wrap (en - va) = en - va := by rw [IntKind.wrap_u64]; omega
  obtain ⟨h3, h4⟩ := he
  go_enter Tryz.func50, Tryz.ntmps50
  go_wp2
  go_ret
  exact ⟨rfl, rfl⟩
theorem leaf_any {w : World} {p b m N : Nat} {B : Nat → Int} {L : List Nat} (h : Ram w p b m N B L) (root va : Int) (hr : 0 ≤ root ∧ root < 18446744073709551616) (hv : 0 ≤ va ∧ va < 18446744073709551616) :
    Calls Tryz.prog 75 #[.agg #[.pointer (some ⟨p, 0, .none⟩), .int .u64 root], .int .u64 va] w fun r w' => r = .returned (.int .u64 (if finds (look N L B root va) va = true then (look N L B root va).e else 0)) ∧ Below w.heap.size w w' := by
  have HB : Hid (Below w.heap.size w (w.alloc (.cells #[.pointer (some ⟨p, 0, .none⟩), .int .u64 root] 77))) := (Below.refl _ _).alloc (Nat.le_refl _) _
  have c := entry_any (h.below HB.out) root va hr hv
  generalize (if finds (look N L B root va) va = true then (look N L B root va).e else 0) = x at c ⊢
  generalize look N L B root va = y at c
  clear h
  go_enter Tryz.func75, Tryz.ntmps75
  go_wp2_with (go_at_call 67; refine c.mono ?_; rintro _ w1 ⟨rfl, b1⟩)
  all_goals go_ret
  all_goals exact ⟨rfl, HB.out.trans (b1.mono HB.out.size)⟩
end Go.Proofs.YtblmkkhiojbcjaaGreat
namespace Go.Proofs.YtblmkkhiojbcjaaGreat
open Go.RowKit
set_option linter.unusedVariables false
set_option linter.unusedSimpArgs false
/-- How many nodes a page wants. -/
def needY (F : Nat → Option Nat) (va : Int) : Nat := if F (y1 va) = none then 2 else if F (y0 va) = none then 1 else 0
section
variable {w : World} {p b m N : Nat} {B : Nat → Int} {L : List Nat} {F : Nat → Option Nat} {lf : Nat → Nat → Int}
theorem look_needY (h : PT N L B F lf) (hN : N ≤ 4096) {r : Nat} (hr : F 0 = some r) (va : Int) (hz : lf (y0 va) (i0 va) = 0) : (look N L B (ad r) va).k = 0 ∧ (look N L B (ad r) va).l = (needY F va : Nat) := by
  unfold needY
  cases h1 : F (y1 va) with
  | none =>
    rw [look_2 h hr va h1]
    simp
  | some g =>
    cases h0 : F (y0 va) with
    | none =>
      rw [look_1 h hN hr va h1 h0]
      simp
    | some q =>
      rw [look_0 h hN hr va h1 h0, hz]
      simp [kd_zero]
theorem ad_b (f N : Nat) (h : f < N) (hN : N ≤ 4096) : 0 ≤ ad f ∧ ad f < 72057594037927936 ∧ ad f % 4096 = 0 := by unfold ad; omega
/-- Map of a page that a table does not have. -/
theorem map_pt (h : Ram w p b m N B L) (hP : PT N L B F lf) {r : Nat} (hr : F 0 = some r) (va pa perm : Int) (hv : 0 ≤ va) (hu : va % 4096 = 0 ∧ va < 274877906944) (hpa : 0 ≤ pa ∧ pa % 4096 = 0 ∧ pa < 72057594037927936)
    (hmp : (!ho perm 18446744073709551361 && ho perm 10 && (!hs perm 4 || hs perm 2)) = true) (hk : kd (toP pa perm) 0 = 2 ∧ 0 ≤ toP pa perm ∧ toP pa perm < 18446744073709551616) (hz : lf (y0 va) (i0 va) = 0) (hn : needY F va ≤ L.length) :
    Calls Tryz.prog 86 #[.pointer (some ⟨p, 0, .none⟩), .int .u64 (ad r), .int .u64 va, .int .u64 pa, .int .u64 perm] w fun e w' => e = .returned (.int .i64 0) ∧ ∃ B' L' F', LP N va (toP pa perm) L B F lf L' B' F' ∧ L = L.take (needY F va) ++ L' ∧ Ram w' p b m N B' L' ∧ Fra p b m w w' := by
  have hN := h.mem.n2
  have hrb := ad_b r N (hP.held 0 r hr).2.1 hN
  obtain ⟨l1, l2⟩ := look_needY hP hN hr va hz
  refine (map_late h (ad r) va pa perm ⟨hrb.1, by omega⟩ ⟨hv, by omega⟩ ⟨hpa.1, by omega⟩ hu ⟨hpa.2.1, hpa.2.2⟩ hmp).mono fun e w' hM => ?_
  unfold MapP at hM
  have hnd := hP.ndB hr
  rw [l1, l2] at hM
  rcases hM with ⟨h1, _⟩ | ⟨_, h1, _⟩ | ⟨_, _, h1, _⟩ | ⟨_, _, _, rfl, B', L', h1, h2, h3, h4⟩
  · rw [hnd] at h1; cases h1
  · exact absurd rfl h1
  · omega
  · obtain ⟨F', R⟩ := lays_pt hP hN h.nd h.lt hr hk h1
    exact ⟨rfl, B', L', F', R, by simpa using h2, h3, h4⟩
/-- A table that New gives. -/
theorem PT.initY {i : Nat} (hi : 1 ≤ i ∧ i < N) (hL : i ∉ L) : PT N L (zer B i) (fun x => if x = 0 then some i else none) (fun _ _ => 0) := by
  refine ⟨⟨i, by simp⟩, fun x f hf => ?_, fun x y f hx hy => ?_, fun x e hx he hne => ?_, fun x hx => ?_, fun x g hx hg e he => ?_, fun y g hy hg k hk => ?_, fun _ _ => .inl rfl, fun _ _ _ => rfl⟩
  · by_cases e : x = 0
    · simp only [e, if_true, Option.some.injEq] at hf
      subst hf
      exact ⟨hi.1, hi.2, hL⟩
    · simp [e] at hf
  · by_cases e : x = 0 <;> by_cases e2 : y = 0 <;> simp_all
  · have := ch_pos x e
    simp [show ch x e ≠ 0 by omega] at hne
  · by_cases e : x = 0
    · omega
    · simp [e] at hx
  · by_cases e2 : x = 0
    · simp only [e2, if_true, Option.some.injEq] at hg
      subst hg
      have := ch_pos x e
      rw [evn_zer_same _ _ _ he]
      simp [show ch x e ≠ 0 by omega, ptr]
    · simp [e2] at hg
  · simp [show y ≠ 0 by omega] at hg
end
/-- Is it a held frame's address? -/
def isHd (N : Nat) (L : List Nat) (pa : Int) : Prop := ∃ f : Nat, f < N ∧ f ∉ L ∧ pa = ad f
end Go.Proofs.YtblmkkhiojbcjaaGreat
namespace Go.Proofs.YtblmkkhiojbcjaaGreat
open Go.RowKit
set_option linter.unusedVariables false
set_option linter.unusedSimpArgs false
section
variable {w : World} {p b m N : Nat} {B : Nat → Int} {L : List Nat} {F : Nat → Option Nat} {lf : Nat → Nat → Int}
/-- Load of one byte: whether there is one, and a number. -/
theorem load1_any (h : Ram w p b m N B L) (pa : Int) (hp : 0 ≤ pa ∧ pa < 18446744073709551616) : ∃ x ok, (ok = true ↔ isHd N L (pa / 4096 * 4096)) ∧
    Calls Tryz.prog 118 #[.pointer (some ⟨p, 0, .none⟩), .int .u64 pa, .int .i64 1] w fun e w' => e = .returned (.tuple #[.int .u64 x, .bool ok]) ∧ Below w.heap.size w w' := by
  have n2 := h.mem.n2
  by_cases ho : 2147483648 ≤ pa ∧ pa - 2147483648 + 1 ≤ 4096 * N
  · obtain ⟨o, rfl⟩ : ∃ o : Nat, pa = 2147483648 + o := ⟨(pa - 2147483648).toNat, by omega⟩
    have hfN : o / 4096 < N := by omega
    have hpg : (2147483648 + (o : Int)) / 4096 * 4096 = ad (o / 4096) := by unfold ad; omega
    by_cases hL : o / 4096 ∈ L
    · refine ⟨0, false, ?_, ?_⟩
      · constructor
        · intro h; cases h
        · rintro ⟨f, h1, h2, h3⟩
          rw [hpg] at h3
          have : f = o / 4096 := by unfold ad at h3; omega
          exact absurd (this ▸ hL) h2
      · have c := reach_hole h.mem o 1 (by omega) (by omega) (o / 4096) (by omega) (by omega) (by rw [hdL_in hfN]; simp [hL])
        exact load_no _ 1 (access_no _ 1 0 false c)
    · refine ⟨num B o 1, true, ?_, ?_⟩
      · simp only [true_iff]
        exact ⟨o / 4096, hfN, hL, hpg⟩
      · exact load_ok h.mem o 1 (.inl rfl) (by omega) (fun f h1 h2 => by
          have : f = o / 4096 := by omega
          rw [this, hdL_in hfN]
          simp [hL])
  · refine ⟨0, false, ?_, ?_⟩
    · constructor
      · intro h; cases h
      · rintro ⟨f, h1, h2, h3⟩
        unfold ad at h3
        omega
    · exact load_no _ 1 (access_no _ 1 0 false (reach_out h.mem pa 1 hp (by omega) (by omega) ho))
/-- isHeld of a space. -/
theorem held_any (h : Ram w p b m N B L) (pa : Int) (hp : 0 ≤ pa ∧ pa < 18446744073709551616) : ∃ ok, (ok = true ↔ isHd N L pa) ∧
    Calls Tryz.prog 107 #[.pointer (some ⟨p, 0, .none⟩), .int .u64 pa] w fun e w' => e = .returned (.bool ok) ∧ Below w.heap.size w w' := by
  obtain ⟨x, ok, h1, c⟩ := load1_any h pa hp
  refine ⟨ok && decide (pa % 4096 = 0), ?_, ?_⟩
  · constructor
    · intro e
      simp only [Bool.and_eq_true, decide_eq_true_eq] at e
      have := h1.1 e.1
      rwa [show pa / 4096 * 4096 = pa by omega] at this
    · intro e
      obtain ⟨f, h2, h3, h4⟩ := e
      have h5 : pa % 4096 = 0 := by unfold ad at h4; omega
      rw [h1.2 (by rw [show pa / 4096 * 4096 = pa by omega]; exact ⟨f, h2, h3, h4⟩)]
      simp [h5]
  · clear h h1
    cases ok
    · go_enter Tryz.func107, Tryz.ntmps107
      go_wp2_with (go_at_call 118; refine c.mono ?_; rintro _ w1 ⟨rfl, b1⟩)
      go_ret
      exact ⟨by simp, b1⟩
    · by_cases h5 : pa % 4096 = 0
      · go_enter Tryz.func107, Tryz.ntmps107
        go_wp2_with (go_at_call 118; refine c.mono ?_; rintro _ w1 ⟨rfl, b1⟩)
        go_ret
        exact ⟨by simp [h5], b1⟩
      · have h6 : (pa % 4096 == 0) = false := by simpa using h5
        go_enter Tryz.func107, Tryz.ntmps107
        go_wp2_with (go_at_call 118; refine c.mono ?_; rintro _ w1 ⟨rfl, b1⟩)
        go_ret
        exact ⟨by simp [h5], b1⟩
/-- Two held frames, unlike. -/
theorem two_any (h : Ram w p b m N B L) (a t : Int) (ha : 0 ≤ a ∧ a < 18446744073709551616) (ht : 0 ≤ t ∧ t < 18446744073709551616) : ∃ ok, (ok = true ↔ isHd N L a ∧ isHd N L t ∧ a ≠ t) ∧
    Calls Tryz.prog 76 #[.pointer (some ⟨p, 0, .none⟩), .int .u64 a, .int .u64 t] w fun e w' => e = .returned (.bool ok) ∧ Below w.heap.size w w' := by
  obtain ⟨o1, h1, c1⟩ := held_any h a ha
  cases o1
  · refine ⟨false, ?_, ?_⟩
    · constructor
      · intro e; cases e
      · intro e; exact absurd (h1.2 e.1) (by simp)
    · clear h h1
      go_enter Tryz.func76, Tryz.ntmps76
      go_wp2_with (go_at_call 107; refine c1.mono ?_; rintro _ w1 ⟨rfl, b1⟩)
      go_ret
      exact ⟨rfl, b1⟩
  · have hy : ∀ w', Below w.heap.size w w' → ∃ ok, (ok = true ↔ isHd N L t) ∧ Calls Tryz.prog 107 #[.pointer (some ⟨p, 0, .none⟩), .int .u64 t] w' fun e w'' => e = .returned (.bool ok) ∧ Below w'.heap.size w' w'' := fun w' b => held_any (h.below b) t ht
    by_cases h2 : isHd N L t
    · have hy2 : ∀ w', Below w.heap.size w w' → Calls Tryz.prog 107 #[.pointer (some ⟨p, 0, .none⟩), .int .u64 t] w' fun e w'' => e = .returned (.bool true) ∧ Below w'.heap.size w' w'' := fun w' b => by
        obtain ⟨ok, e1, e2⟩ := hy w' b
        obtain rfl : ok = true := e1.2 h2
        exact e2
      have HY : Hid (∀ w', Below w.heap.size w w' → Calls Tryz.prog 107 #[.pointer (some ⟨p, 0, .none⟩), .int .u64 t] w' fun e w'' => e = .returned (.bool true) ∧ Below w'.heap.size w' w'') := hy2
      refine ⟨decide (a ≠ t), ?_, ?_⟩
      · constructor
        · intro e; exact ⟨h1.1 rfl, h2, of_decide_eq_true e⟩
        · intro e; exact decide_eq_true e.2.2
      · clear h h1 hy hy2
        by_cases hat : a = t
        · subst hat
          go_enter Tryz.func76, Tryz.ntmps76
          go_wp2_with first | (go_at_call_of 107 (.int .u64 a); refine c1.mono ?_; rintro _ w1 ⟨rfl, b1⟩) | (go_at_call 107; first | (refine (HY.out _ b1).mono ?_; rintro _ w2 ⟨rfl, b2⟩) | (refine c1.mono ?_; rintro _ w1 ⟨rfl, b1⟩))
          go_ret
          exact ⟨by simp, b1.trans (b2.mono b1.size)⟩
        · have hne : (a != t) = true := by simpa using hat
          go_enter Tryz.func76, Tryz.ntmps76
          go_wp2_with (go_at_call 107; first | (refine (HY.out _ b1).mono ?_; rintro _ w2 ⟨rfl, b2⟩) | (refine c1.mono ?_; rintro _ w1 ⟨rfl, b1⟩))
          go_ret
          exact ⟨by simp [hat], b1.trans (b2.mono b1.size)⟩
    · have hy2 : ∀ w', Below w.heap.size w w' → Calls Tryz.prog 107 #[.pointer (some ⟨p, 0, .none⟩), .int .u64 t] w' fun e w'' => e = .returned (.bool false) ∧ Below w'.heap.size w' w'' := fun w' b => by
        obtain ⟨ok, e1, e2⟩ := hy w' b
        cases ok
        · exact e2
        · exact absurd (e1.1 rfl) h2
      have HY : Hid (∀ w', Below w.heap.size w w' → Calls Tryz.prog 107 #[.pointer (some ⟨p, 0, .none⟩), .int .u64 t] w' fun e w'' => e = .returned (.bool false) ∧ Below w'.heap.size w' w'') := hy2
      refine ⟨false, ?_, ?_⟩
      · constructor
        · intro e; cases e
        · intro e; exact absurd e.2.1 h2
      · clear h h1 hy hy2 h2
        go_enter Tryz.func76, Tryz.ntmps76
        go_wp2_with (go_at_call 107; first | (refine (HY.out _ b1).mono ?_; rintro _ w2 ⟨rfl, b2⟩) | (refine c1.mono ?_; rintro _ w1 ⟨rfl, b1⟩))
        go_ret
        exact ⟨rfl, b1.trans (b2.mono b1.size)⟩
end
end Go.Proofs.YtblmkkhiojbcjaaGreat
