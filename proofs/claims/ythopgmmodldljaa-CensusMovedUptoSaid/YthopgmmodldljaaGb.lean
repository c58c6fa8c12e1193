import Derived.Test.YthopgmmodldljaaGa
namespace Go.Proofs.Ythopgmmodldljaa
open Go Go.RowKit
set_option linter.unusedVariables false
set_option linter.unusedSimpArgs false
/-- Two processes are the same but for their frames. -/
def plP (p q : Pc) : Bool := pcB1 p q && (fdB p.c q.c && (p.c 62 == q.c 62) && (p.inC == q.inC) && peB p.c q.c && ((p.nodes.length : Int) == q.nodes.length))
def cmP (p q : Pc) : Bool := plP p q && allB pgB p.pages q.pages
def cmF (x y : Fi) : Bool := ((x.num == y.num) && ((x.kind == y.kind) && ((x.refs == y.refs) && ((x.rd == y.rd) && ((x.wr == y.wr) && ((x.ino == y.ino) && ((x.off == y.off) && ((x.pipe == y.pipe) && true))))))))
def cmI (x y : In) : Bool := (((x.ino == y.ino)) && (((x.ty == y.ty)) && (((x.ma == y.ma)) && (((x.mi == y.mi)) && (((x.links == y.links)) && (((x.refs == y.refs)) && (((x.size == y.size)) && ((((x.bl.length : Int) == y.bl.length)) && true))))))))
def plQ (x y : Pp) : Bool := (((x.num == y.num)) && (((x.rs == y.rs)) && (((x.ws == y.ws)) && (((x.rd == y.rd)) && (((x.wr == y.wr)) && true)))))
def cmB (x y : Int) : Bool := x == y
def cmQ (x y : Pp) : Bool := plQ x y && allB cmB x.bs y.bs
theorem plP_eq (p q : Pc) : plP p q = (((p.c 0 == q.c 0)) && (((p.c 1 == q.c 1)) && (((p.c 2 == q.c 2)) && (((p.c 3 == q.c 3)) && ((chB p.c q.c) && (((p.kil == q.kil)) && (((p.c 7 == q.c 7)) && ((rgB p.c q.c) && (((p.c 41 == q.c 41)) && ((((p.nodes.length : Int) == q.nodes.length)) && ((fdB p.c q.c) && (((p.c 62 == q.c 62)) && (((p.inC == q.inC)) && ((peB p.c q.c) && true)))))))))))))) := by
  unfold plP pcB1
  simp only [Bool.and_true]
  generalize (p.c 0 == q.c 0) = a0
  generalize (p.c 1 == q.c 1) = a1
  generalize (p.c 2 == q.c 2) = a2
  generalize (p.c 3 == q.c 3) = a3
  generalize chB p.c q.c = a4
  generalize (p.kil == q.kil) = a5
  generalize (p.c 7 == q.c 7) = a6
  generalize rgB p.c q.c = a7
  generalize (p.c 41 == q.c 41) = a8
  generalize ((p.nodes.length : Int) == q.nodes.length) = a9
  generalize fdB p.c q.c = b1
  generalize (p.c 62 == q.c 62) = b2
  generalize (p.inC == q.inC) = b3
  generalize peB p.c q.c = b4
  ac_rfl
theorem byte48_any (x y : Int) (w : World) : Calls Try.prog 48 #[.int .u8 x, .int .u8 y] w fun e w' => e = .returned (.bool (cmB x y)) ∧ Below w.heap.size w w' := by
  cases hb : cmB x y
  · have h1 : (x == y) = false := hb
    go_enter Try.func48, Try.ntmps48
    go_wp2
    go_ret
    exact ⟨rfl, Below.refl _ _⟩
  · have h1 : (x == y) = true := hb
    go_enter Try.func48, Try.ntmps48
    go_wp2
    go_ret
    exact ⟨rfl, Below.refl _ _⟩
set_option maxRecDepth 100000 in
theorem file42_any (x y : Fi) (w : World) : Calls Try.prog 42 #[.agg x.l.toArray, .agg y.l.toArray] w fun e w' => e = .returned (.bool (cmF x y)) ∧ Below w.heap.size w w' := by
  have g94 : ∀ op u v xs ys (w : World), (eqGuard op 94 u v (.agg xs) (.agg ys)).run Try.prog w = .ok () w := fun op u v xs ys w => run_eqGuard_agg w op 94 u v xs ys (by kernel_rfl)
  obtain ⟨b, hb⟩ : ∃ b, b = cmF x y := ⟨_, rfl⟩
  have q94 : ∀ w : World, (binOp .eql 94 (.agg x.l.toArray) (.agg y.l.toArray)).run Try.prog w = .ok (.bool b) w := fun w => by rw [hb]; exact eqv_eql (eq_file 9997 x y) w
  rw [← hb]
  clear hb
  go_enter Try.func42, Try.ntmps42
  go_upto_region 1 with (first
    | (refine wpList_is (.box 94 (.tmp 0)) rfl ?_; refine wpList_boxG 94 x.l 2 (.tmp 0) _ rfl rfl rfl rfl ?_; intro W1 hW1 hB1 hs1)
    | (refine wpList_is (.box 94 (.tmp 1)) rfl ?_; refine wpList_boxG 94 y.l 3 (.tmp 1) _ rfl rfl rfl rfl ?_; intro W2 hW2 hB2 hs2; rw [hs1] at hW2 hs2 ⊢)
    | fail)
  have r1 : W2.rangeAt w.heap.size 0 x.l := range_keep (range_heap hW1) hB2 (by omega)
  have r2 : W2.rangeAt (w.heap.size + 1) 0 y.l := range_heap hW2
  have HB : Hid (Below w.heap.size w W2 ∧ W2.heap.size = w.heap.size + 2) := ⟨hB1.trans (hB2.mono (by omega)), by omega⟩
  clear hW1 hW2 hB1 hB2 hs1 hs2
  go_wp2_with (first
    | (refine wpList_is (.load 94 (.tmp 2)) rfl ?_; refine wpList_loadG 94 8 56 info94 _ Try.underlying94 rfl x.l rfl w.heap.size 0 (.tmp 2) rfl rfl rfl r1 (some 5) rfl ?_)
    | (refine wpList_is (.load 94 (.tmp 3)) rfl ?_; refine wpList_loadG 94 8 56 info94 _ Try.underlying94 rfl y.l rfl (w.heap.size + 1) 0 (.tmp 3) rfl rfl rfl r2 (some 6) rfl ?_)
    | fail)
  go_ret
  exact ⟨rfl, HB.out.1⟩
set_option maxRecDepth 100000 in
theorem page62_any (x y : Pg) (w : World) : Calls Try.prog 62 #[.agg x.l.toArray, .agg y.l.toArray] w fun e w' => e = .returned (.bool (pgB x y)) ∧ Below w.heap.size w w' := by
  obtain ⟨b, hb⟩ : ∃ b, b = pgB x y := ⟨_, rfl⟩
  rw [← hb]
  have HBB : Hid (b = (x.no == y.no && x.pm == y.pm)) := hb
  clear hb
  go_enter Try.func62, Try.ntmps62
  go_upto_region 1 with (first
    | (refine wpList_is (.box 81 (.tmp 0)) rfl ?_; refine wpList_boxG 81 x.l 2 (.tmp 0) _ rfl rfl rfl rfl ?_; intro W1 hW1 hB1 hs1)
    | (refine wpList_is (.box 81 (.tmp 1)) rfl ?_; refine wpList_boxG 81 y.l 3 (.tmp 1) _ rfl rfl rfl rfl ?_; intro W2 hW2 hB2 hs2; rw [hs1] at hW2 hs2 ⊢)
    | fail)
  have r1 : W2.rangeAt w.heap.size 0 x.l := range_keep (range_heap hW1) hB2 (by omega)
  have r2 : W2.rangeAt (w.heap.size + 1) 0 y.l := range_heap hW2
  have HB : Hid (Below w.heap.size w W2 ∧ W2.heap.size = w.heap.size + 2) := ⟨hB1.trans (hB2.mono (by omega)), by omega⟩
  clear hW1 hW2 hB1 hB2 hs1 hs2
  have a0 : W2.cell? ⟨w.heap.size, 0, .none⟩ = some (.int .u64 x.no) := by have := r1 0 _ rfl; rw [Nat.zero_add] at this; exact this
  have a2 : W2.cell? ⟨w.heap.size, 2, .none⟩ = some (.int .u64 x.pm) := by have := r1 2 _ rfl; rw [Nat.zero_add] at this; exact this
  have b0 : W2.cell? ⟨w.heap.size + 1, 0, .none⟩ = some (.int .u64 y.no) := by have := r2 0 _ rfl; rw [Nat.zero_add] at this; exact this
  have b2 : W2.cell? ⟨w.heap.size + 1, 2, .none⟩ = some (.int .u64 y.pm) := by have := r2 2 _ rfl; rw [Nat.zero_add] at this; exact this
  clear r1 r2
  cases h1 : (x.no == y.no)
  · go_wp2
    go_ret
    exact ⟨by rw [HBB.out, h1]; rfl, HB.out.1⟩
  · cases h2 : (x.pm == y.pm)
    · go_wp2
      go_ret
      exact ⟨by rw [HBB.out, h1, h2]; rfl, HB.out.1⟩
    · go_wp2
      go_ret
      exact ⟨by rw [HBB.out, h1, h2]; rfl, HB.out.1⟩
set_option maxRecDepth 100000 in
theorem inode44_any (x y : In) (np1 np2 : Option Addr) (nc1 nc2 : Nat) (w : World) : Calls Try.prog 44 #[.agg (x.l (.slice np1 x.bl.length nc1)).toArray, .agg (y.l (.slice np2 y.bl.length nc2)).toArray] w fun e w' => e = .returned (.bool (cmI x y)) ∧ Below w.heap.size w w' := by
  have g137 : ∀ op u v xs ys (w : World), (eqGuard op 137 u v (.agg xs) (.agg ys)).run Try.prog w = .ok () w := fun op u v xs ys w => run_eqGuard_agg w op 137 u v xs ys (by kernel_rfl)
  obtain ⟨b, hb⟩ : ∃ b, b = cmI x y := ⟨_, rfl⟩
  have q137 : ∀ w : World, (binOp .eql 137 (.agg (piL x x.bl.length).toArray) (.agg (piL y y.bl.length).toArray)).run Try.prog w = .ok (.bool b) w := fun w => by rw [hb]; exact eqv_eql (eq_137 9996 x y _ _) w
  rw [← hb]
  clear hb
  go_enter Try.func44, Try.ntmps44
  go_upto_region 1 with (first
    | (refine wpList_is (.box 66 (.tmp 0)) rfl ?_; refine wpList_boxG 66 (x.l (.slice np1 x.bl.length nc1)) 2 (.tmp 0) _ rfl rfl rfl rfl ?_; intro W1 hW1 hB1 hs1)
    | (refine wpList_is (.box 66 (.tmp 1)) rfl ?_; refine wpList_boxG 66 (y.l (.slice np2 y.bl.length nc2)) 3 (.tmp 1) _ rfl rfl rfl rfl ?_; intro W2 hW2 hB2 hs2; rw [hs1] at hW2 hs2 ⊢)
    | fail)
  have r1 : W2.rangeAt w.heap.size 0 (x.l (.slice np1 x.bl.length nc1)) := range_keep (range_heap hW1) hB2 (by omega)
  have r2 : W2.rangeAt (w.heap.size + 1) 0 (y.l (.slice np2 y.bl.length nc2)) := range_heap hW2
  have HB : Hid (Below w.heap.size w W2 ∧ W2.heap.size = w.heap.size + 2) := ⟨hB1.trans (hB2.mono (by omega)), by omega⟩
  clear hW1 hW2 hB1 hB2 hs1 hs2
  refine region_set (fun V => V.rangeAt w.heap.size 0 (x.l (.slice np1 x.bl.length nc1)) ∧ V.rangeAt (w.heap.size + 1) 0 (y.l (.slice np2 y.bl.length nc2))) 4 [] (by kernel_rfl) ?_
  have HK : Hid (∀ V, Below W2.heap.size W2 V → V.rangeAt w.heap.size 0 (x.l (.slice np1 x.bl.length nc1)) ∧ V.rangeAt (w.heap.size + 1) 0 (y.l (.slice np2 y.bl.length nc2))) := fun V hV => ⟨range_keep r1 hV (by have := HB.out.2; omega), range_keep r2 hV (by have := HB.out.2; omega)⟩
  have hS : (fun V : World => V.rangeAt w.heap.size 0 (x.l (.slice np1 x.bl.length nc1)) ∧ V.rangeAt (w.heap.size + 1) 0 (y.l (.slice np2 y.bl.length nc2))) W2.drew := HK.out _ (Below.refl _ _).drew
  clear r1 r2
  refine set_take (i := 0) (v := .agg ((x.l (.slice np1 x.bl.length nc1))).toArray) rfl (by kernel_rfl) (by kernel_rfl) (by kernel_rfl) (by kernel_rfl) (fun _ _ _ h => h) (yieldsIf_load_mid (by rfl) 66 (.tmp 2) rfl (w.heap.size) (0) rfl ((x.l (.slice np1 x.bl.length nc1))) _ (fun ww hSw => hSw.1) Try.underlying66 rfl (by first | kernel_rfl | (rw [rfl]; kernel_rfl))) hS ?_
  simp only [Act.put, List.setIfInBounds_toArray, List.set_cons_zero, List.set_cons_succ, List.getElem_toArray, List.getElem_cons_succ, List.getElem_cons_zero]
  refine set_take (i := 2) (v := .agg ((y.l (.slice np2 y.bl.length nc2))).toArray) rfl (by kernel_rfl) (by kernel_rfl) (by kernel_rfl) (by kernel_rfl) (fun _ _ _ h => h) (yieldsIf_load_mid (by rfl) 66 (.tmp 3) rfl (w.heap.size + 1) (0) rfl ((y.l (.slice np2 y.bl.length nc2))) _ (fun ww hSw => hSw.2) Try.underlying66 rfl (by first | kernel_rfl | (rw [rfl]; kernel_rfl))) hS ?_
  simp only [Act.put, List.setIfInBounds_toArray, List.set_cons_zero, List.set_cons_succ, List.getElem_toArray, List.getElem_cons_succ, List.getElem_cons_zero]
  refine set_only (i := 1) (by kernel_rfl) rfl (by rfl) (fun K hK => ?_)
  go_simp
  go_at_call 63
  refine (plainI_any x np1 x.bl.length nc1 _).mono ?_
  rintro e V1 ⟨rfl, q1⟩
  have q1d : Below W2.heap.size W2 V1 := (Below.refl _ _).drew.trans q1
  have hS1 := HK.out V1 q1d
  clear hS
  refine hK.out _ _ (fun _ => hS1) ?_
  clear hK K
  try simp only [Act.put, List.setIfInBounds_toArray, List.set_cons_zero, List.set_cons_succ, List.getElem_toArray, List.getElem_cons_succ, List.getElem_cons_zero]
  refine set_only (i := 3) (by kernel_rfl) rfl (by rfl) (fun K hK => ?_)
  go_simp
  go_at_call 63
  refine (plainI_any y np2 y.bl.length nc2 _).mono ?_
  rintro e V2 ⟨rfl, q2⟩
  have q3 : Below W2.heap.size W2 V2 := q1d.trans (q2.mono q1d.size)
  have hS2 := HK.out V2 q3
  clear hS1
  refine hK.out _ _ (fun _ => hS2) ?_
  clear hK K
  try simp only [Act.put, List.setIfInBounds_toArray, List.set_cons_zero, List.set_cons_succ, List.getElem_toArray, List.getElem_cons_succ, List.getElem_cons_zero]
  refine set_tail 2 4 _ _ _ _ (by kernel_rfl) (by decide) ?_
  simp only [List.toList_toArray, List.drop_succ_cons, List.drop_zero]
  clear hS2
  go_wp2
  go_ret
  exact ⟨rfl, HB.out.1.trans (q3.mono (by have := HB.out.2; omega))⟩
set_option maxRecDepth 100000 in
theorem proc40_true {w : World} {X Y : Nat} (hX : X ≤ w.heap.size) (hY : Y ≤ w.heap.size) (p q : Pc) (np1 gp1 np2 gp2 : Option Addr) (nc1 gc1 nc2 gc2 : Nat) (h1 : Gs w X (.slice gp1 p.pages.length gc1) p.pages) (h2 : Gs w Y (.slice gp2 q.pages.length gc2) q.pages) (hn : p.pages.length ≤ 10000000) (hm : q.pages.length ≤ 10000000) (hb : plP p q = true) : Calls Try.prog 40 #[.agg (p.l (.slice np1 p.nodes.length nc1) (.slice gp1 p.pages.length gc1)).toArray, .agg (q.l (.slice np2 q.nodes.length nc2) (.slice gp2 q.pages.length gc2)).toArray] w fun e w' => e = .returned (.bool (cmP p q)) ∧ Below w.heap.size w w' := by
  have g132 : ∀ op u v xs ys (w : World), (eqGuard op 132 u v (.agg xs) (.agg ys)).run Try.prog w = .ok () w := fun op u v xs ys w => run_eqGuard_agg w op 132 u v xs ys (by kernel_rfl)
  have q132 : ∀ w : World, (binOp .eql 132 (.agg (ppL p p.nodes.length).toArray) (.agg (ppL q q.nodes.length).toArray)).run Try.prog w = .ok (.bool true) w := fun w => by rw [← hb, plP_eq]; exact eqv_eql (eq_132 9996 p q _ _) w
  have HC : Hid (cmP p q = (true && allB pgB p.pages q.pages)) := by show _ = _; unfold cmP; rw [hb]
  have HG : Hid (∀ V, Below w.heap.size w V → Calls Try.prog 61 #[.slice gp1 p.pages.length gc1, .slice gp2 q.pages.length gc2, .func (.func 62) #[] #[]] V fun e w' => e = .returned (.bool (allB pgB p.pages q.pages)) ∧ Below V.heap.size V w') := fun V hV => same61_any (h1.keep (X' := X) (Nat.le_refl _) (hV.mono hX)) (h2.keep (X' := Y) (Nat.le_refl _) (hV.mono hY)) (Nat.le_trans hX hV.size) (Nat.le_trans hY hV.size) hn hm pgB (fun w' _ x _ y _ cs cs' e1 e2 _ _ => by subst e1 e2; exact page62_any x y w')
  clear h1 h2 hb hn hm hX hY
  go_enter Try.func40, Try.ntmps40
  go_upto_region 1 with (first
    | (refine wpList_is (.box 55 (.tmp 0)) rfl ?_; refine wpList_boxG 55 (p.l (.slice np1 p.nodes.length nc1) (.slice gp1 p.pages.length gc1)) 2 (.tmp 0) _ rfl rfl rfl rfl ?_; intro W1 hW1 hB1 hs1)
    | (refine wpList_is (.box 55 (.tmp 1)) rfl ?_; refine wpList_boxG 55 (q.l (.slice np2 q.nodes.length nc2) (.slice gp2 q.pages.length gc2)) 3 (.tmp 1) _ rfl rfl rfl rfl ?_; intro W2 hW2 hB2 hs2; rw [hs1] at hW2 hs2 ⊢)
    | fail)
  have r1 : W2.rangeAt w.heap.size 0 (p.l (.slice np1 p.nodes.length nc1) (.slice gp1 p.pages.length gc1)) := range_keep (range_heap hW1) hB2 (by omega)
  have r2 : W2.rangeAt (w.heap.size + 1) 0 (q.l (.slice np2 q.nodes.length nc2) (.slice gp2 q.pages.length gc2)) := range_heap hW2
  have HB : Hid (Below w.heap.size w W2 ∧ W2.heap.size = w.heap.size + 2) := ⟨hB1.trans (hB2.mono (by omega)), by omega⟩
  clear hW1 hW2 hB1 hB2 hs1 hs2
  refine region_set (fun V => V.rangeAt w.heap.size 0 (p.l (.slice np1 p.nodes.length nc1) (.slice gp1 p.pages.length gc1)) ∧ V.rangeAt (w.heap.size + 1) 0 (q.l (.slice np2 q.nodes.length nc2) (.slice gp2 q.pages.length gc2)) ∧ V.cell? ⟨w.heap.size, 45, .none⟩ = some (.slice gp1 p.pages.length gc1) ∧ V.cell? ⟨w.heap.size + 1, 45, .none⟩ = some (.slice gp2 q.pages.length gc2)) 12 [] (by kernel_rfl) ?_
  have HK : Hid (∀ V, Below W2.heap.size W2 V → V.rangeAt w.heap.size 0 (p.l (.slice np1 p.nodes.length nc1) (.slice gp1 p.pages.length gc1)) ∧ V.rangeAt (w.heap.size + 1) 0 (q.l (.slice np2 q.nodes.length nc2) (.slice gp2 q.pages.length gc2)) ∧ V.cell? ⟨w.heap.size, 45, .none⟩ = some (.slice gp1 p.pages.length gc1) ∧ V.cell? ⟨w.heap.size + 1, 45, .none⟩ = some (.slice gp2 q.pages.length gc2)) := fun V hV => by
    have e1 := range_keep r1 hV (by have := HB.out.2; omega : w.heap.size < W2.heap.size)
    have e2 := range_keep r2 hV (by have := HB.out.2; omega : w.heap.size + 1 < W2.heap.size)
    refine ⟨e1, e2, ?_, ?_⟩
    · have := e1 45 _ rfl; rw [Nat.zero_add] at this; exact this
    · have := e2 45 _ rfl; rw [Nat.zero_add] at this; exact this
  have hS : (fun V : World => V.rangeAt w.heap.size 0 (p.l (.slice np1 p.nodes.length nc1) (.slice gp1 p.pages.length gc1)) ∧ V.rangeAt (w.heap.size + 1) 0 (q.l (.slice np2 q.nodes.length nc2) (.slice gp2 q.pages.length gc2)) ∧ V.cell? ⟨w.heap.size, 45, .none⟩ = some (.slice gp1 p.pages.length gc1) ∧ V.cell? ⟨w.heap.size + 1, 45, .none⟩ = some (.slice gp2 q.pages.length gc2)) W2.drew := HK.out _ (Below.refl _ _).drew
  clear r1 r2
  refine set_take (i := 0) (v := .agg ((p.l (.slice np1 p.nodes.length nc1) (.slice gp1 p.pages.length gc1))).toArray) rfl (by kernel_rfl) (by kernel_rfl) (by kernel_rfl) (by kernel_rfl) (fun _ _ _ h => h) (yieldsIf_load_mid (by rfl) 55 (.tmp 2) rfl (w.heap.size) (0) rfl ((p.l (.slice np1 p.nodes.length nc1) (.slice gp1 p.pages.length gc1))) _ (fun ww hSw => hSw.1) Try.underlying55 rfl (by first | kernel_rfl | (rw [rfl]; kernel_rfl))) hS ?_
  simp only [Act.put, List.setIfInBounds_toArray, List.set_cons_zero, List.set_cons_succ, List.getElem_toArray, List.getElem_cons_succ, List.getElem_cons_zero]
  refine set_take (i := 2) (v := .agg ((q.l (.slice np2 q.nodes.length nc2) (.slice gp2 q.pages.length gc2))).toArray) rfl (by kernel_rfl) (by kernel_rfl) (by kernel_rfl) (by kernel_rfl) (fun _ _ _ h => h) (yieldsIf_load_mid (by rfl) 55 (.tmp 3) rfl (w.heap.size + 1) (0) rfl ((q.l (.slice np2 q.nodes.length nc2) (.slice gp2 q.pages.length gc2))) _ (fun ww hSw => hSw.2.1) Try.underlying55 rfl (by first | kernel_rfl | (rw [rfl]; kernel_rfl))) hS ?_
  simp only [Act.put, List.setIfInBounds_toArray, List.set_cons_zero, List.set_cons_succ, List.getElem_toArray, List.getElem_cons_succ, List.getElem_cons_zero]
  refine set_only (i := 1) (by kernel_rfl) rfl (by rfl) (fun K hK => ?_)
  go_simp
  go_at_call 60
  refine (plainP_any p np1 gp1 p.nodes.length nc1 p.pages.length gc1 _).mono ?_
  rintro e V1 ⟨rfl, q1⟩
  have q1d : Below W2.heap.size W2 V1 := (Below.refl _ _).drew.trans q1
  have hS1 := HK.out V1 q1d
  clear hS
  refine hK.out _ _ (fun _ => hS1) ?_
  clear hK K
  try simp only [Act.put, List.setIfInBounds_toArray, List.set_cons_zero, List.set_cons_succ, List.getElem_toArray, List.getElem_cons_succ, List.getElem_cons_zero]
  refine set_only (i := 3) (by kernel_rfl) rfl (by rfl) (fun K hK => ?_)
  go_simp
  go_at_call 60
  refine (plainP_any q np2 gp2 q.nodes.length nc2 q.pages.length gc2 _).mono ?_
  rintro e V2 ⟨rfl, q2⟩
  have q3 : Below W2.heap.size W2 V2 := q1d.trans (q2.mono q1d.size)
  have hS2 := HK.out V2 q3
  clear hS1
  refine hK.out _ _ (fun _ => hS2) ?_
  clear hK K
  try simp only [Act.put, List.setIfInBounds_toArray, List.set_cons_zero, List.set_cons_succ, List.getElem_toArray, List.getElem_cons_succ, List.getElem_cons_zero]
  refine set_take (i := 4) (v := .bool true) rfl (by kernel_rfl) (by kernel_rfl) (by kernel_rfl) (by kernel_rfl) (fun _ _ _ h => h) (Or.inl ⟨by rfl, fun ww hSw => by obtain ⟨hs1, hs2, hs3, hs4⟩ := hSw; go_simp⟩) hS2 ?_
  simp only [Act.put, List.setIfInBounds_toArray, List.set_cons_zero, List.set_cons_succ, List.getElem_toArray, List.getElem_cons_succ, List.getElem_cons_zero]
  refine set_take (i := 5) (v := .bool true) rfl (by kernel_rfl) (by kernel_rfl) (by kernel_rfl) (by kernel_rfl) (fun _ _ _ h => h) (Or.inl ⟨by rfl, fun ww hSw => by obtain ⟨hs1, hs2, hs3, hs4⟩ := hSw; go_simp⟩) hS2 ?_
  simp only [Act.put, List.setIfInBounds_toArray, List.set_cons_zero, List.set_cons_succ, List.getElem_toArray, List.getElem_cons_succ, List.getElem_cons_zero]
  refine set_take (i := 6) (v := .pointer (some ⟨w.heap.size, 45, .none⟩)) rfl (by kernel_rfl) (by kernel_rfl) (by kernel_rfl) (by kernel_rfl) (fun _ _ _ h => h) (Or.inl ⟨by rfl, fun ww hSw => by obtain ⟨hs1, hs2, hs3, hs4⟩ := hSw; go_simp⟩) hS2 ?_
  simp only [Act.put, List.setIfInBounds_toArray, List.set_cons_zero, List.set_cons_succ, List.getElem_toArray, List.getElem_cons_succ, List.getElem_cons_zero]
  refine set_take (i := 8) (v := .pointer (some ⟨w.heap.size + 1, 45, .none⟩)) rfl (by kernel_rfl) (by kernel_rfl) (by kernel_rfl) (by kernel_rfl) (fun _ _ _ h => h) (Or.inl ⟨by rfl, fun ww hSw => by obtain ⟨hs1, hs2, hs3, hs4⟩ := hSw; go_simp⟩) hS2 ?_
  simp only [Act.put, List.setIfInBounds_toArray, List.set_cons_zero, List.set_cons_succ, List.getElem_toArray, List.getElem_cons_succ, List.getElem_cons_zero]
  refine set_take (i := 7) (v := .slice gp1 p.pages.length gc1) rfl (by kernel_rfl) (by kernel_rfl) (by kernel_rfl) (by kernel_rfl) (fun _ _ _ h => h) (Or.inl ⟨by rfl, fun ww hSw => by obtain ⟨hs1, hs2, hs3, hs4⟩ := hSw; go_simp⟩) hS2 ?_
  simp only [Act.put, List.setIfInBounds_toArray, List.set_cons_zero, List.set_cons_succ, List.getElem_toArray, List.getElem_cons_succ, List.getElem_cons_zero]
  refine set_take (i := 9) (v := .slice gp2 q.pages.length gc2) rfl (by kernel_rfl) (by kernel_rfl) (by kernel_rfl) (by kernel_rfl) (fun _ _ _ h => h) (Or.inl ⟨by rfl, fun ww hSw => by obtain ⟨hs1, hs2, hs3, hs4⟩ := hSw; go_simp⟩) hS2 ?_
  simp only [Act.put, List.setIfInBounds_toArray, List.set_cons_zero, List.set_cons_succ, List.getElem_toArray, List.getElem_cons_succ, List.getElem_cons_zero]
  refine set_only (i := 10) (by kernel_rfl) rfl (by rfl) (fun K hK => ?_)
  go_simp
  go_at_call 61
  refine (HG.out _ (HB.out.1.trans (q3.mono (by have := HB.out.2; omega)))).mono ?_
  rintro e V3 ⟨rfl, q4⟩
  have q5 : Below W2.heap.size W2 V3 := q3.trans (q4.mono q3.size)
  have hS3 := HK.out V3 q5
  clear hS2
  refine hK.out _ _ (fun _ => hS3) ?_
  clear hK K
  try simp only [Act.put, List.setIfInBounds_toArray, List.set_cons_zero, List.set_cons_succ, List.getElem_toArray, List.getElem_cons_succ, List.getElem_cons_zero]
  generalize hal : allB pgB p.pages q.pages = al at *
  refine set_take (i := 11) (v := .bool al) rfl (by kernel_rfl) (by kernel_rfl) (by kernel_rfl) (by kernel_rfl) (fun _ _ _ h => h) (Or.inl ⟨by rfl, fun ww hSw => by obtain ⟨hs1, hs2, hs3, hs4⟩ := hSw; go_simp⟩) hS3 ?_
  simp only [Act.put, List.setIfInBounds_toArray, List.set_cons_zero, List.set_cons_succ, List.getElem_toArray, List.getElem_cons_succ, List.getElem_cons_zero]
  refine set_tail 1 12 _ _ _ _ (by kernel_rfl) (by decide) ?_
  simp only [List.toList_toArray, List.drop_succ_cons, List.drop_zero]
  clear hS3
  go_wp2
  go_ret
  exact ⟨by rw [HC.out, Bool.true_and]; rfl, HB.out.1.trans (q5.mono (by have := HB.out.2; omega))⟩
set_option maxRecDepth 100000 in
theorem proc40_false {w : World} {X Y : Nat} (hX : X ≤ w.heap.size) (hY : Y ≤ w.heap.size) (p q : Pc) (np1 gp1 np2 gp2 : Option Addr) (nc1 gc1 nc2 gc2 : Nat) (h1 : Gs w X (.slice gp1 p.pages.length gc1) p.pages) (h2 : Gs w Y (.slice gp2 q.pages.length gc2) q.pages) (hn : p.pages.length ≤ 10000000) (hm : q.pages.length ≤ 10000000) (hb : plP p q = false) : Calls Try.prog 40 #[.agg (p.l (.slice np1 p.nodes.length nc1) (.slice gp1 p.pages.length gc1)).toArray, .agg (q.l (.slice np2 q.nodes.length nc2) (.slice gp2 q.pages.length gc2)).toArray] w fun e w' => e = .returned (.bool (cmP p q)) ∧ Below w.heap.size w w' := by
  have g132 : ∀ op u v xs ys (w : World), (eqGuard op 132 u v (.agg xs) (.agg ys)).run Try.prog w = .ok () w := fun op u v xs ys w => run_eqGuard_agg w op 132 u v xs ys (by kernel_rfl)
  have q132 : ∀ w : World, (binOp .eql 132 (.agg (ppL p p.nodes.length).toArray) (.agg (ppL q q.nodes.length).toArray)).run Try.prog w = .ok (.bool false) w := fun w => by rw [← hb, plP_eq]; exact eqv_eql (eq_132 9996 p q _ _) w
  have HC : Hid (cmP p q = (false && allB pgB p.pages q.pages)) := by show _ = _; unfold cmP; rw [hb]
  have HG : Hid (∀ V, Below w.heap.size w V → Calls Try.prog 61 #[.slice gp1 p.pages.length gc1, .slice gp2 q.pages.length gc2, .func (.func 62) #[] #[]] V fun e w' => e = .returned (.bool (allB pgB p.pages q.pages)) ∧ Below V.heap.size V w') := fun V hV => same61_any (h1.keep (X' := X) (Nat.le_refl _) (hV.mono hX)) (h2.keep (X' := Y) (Nat.le_refl _) (hV.mono hY)) (Nat.le_trans hX hV.size) (Nat.le_trans hY hV.size) hn hm pgB (fun w' _ x _ y _ cs cs' e1 e2 _ _ => by subst e1 e2; exact page62_any x y w')
  clear h1 h2 hb hn hm hX hY
  go_enter Try.func40, Try.ntmps40
  go_upto_region 1 with (first
    | (refine wpList_is (.box 55 (.tmp 0)) rfl ?_; refine wpList_boxG 55 (p.l (.slice np1 p.nodes.length nc1) (.slice gp1 p.pages.length gc1)) 2 (.tmp 0) _ rfl rfl rfl rfl ?_; intro W1 hW1 hB1 hs1)
    | (refine wpList_is (.box 55 (.tmp 1)) rfl ?_; refine wpList_boxG 55 (q.l (.slice np2 q.nodes.length nc2) (.slice gp2 q.pages.length gc2)) 3 (.tmp 1) _ rfl rfl rfl rfl ?_; intro W2 hW2 hB2 hs2; rw [hs1] at hW2 hs2 ⊢)
    | fail)
  have r1 : W2.rangeAt w.heap.size 0 (p.l (.slice np1 p.nodes.length nc1) (.slice gp1 p.pages.length gc1)) := range_keep (range_heap hW1) hB2 (by omega)
  have r2 : W2.rangeAt (w.heap.size + 1) 0 (q.l (.slice np2 q.nodes.length nc2) (.slice gp2 q.pages.length gc2)) := range_heap hW2
  have HB : Hid (Below w.heap.size w W2 ∧ W2.heap.size = w.heap.size + 2) := ⟨hB1.trans (hB2.mono (by omega)), by omega⟩
  clear hW1 hW2 hB1 hB2 hs1 hs2
  refine region_set (fun V => V.rangeAt w.heap.size 0 (p.l (.slice np1 p.nodes.length nc1) (.slice gp1 p.pages.length gc1)) ∧ V.rangeAt (w.heap.size + 1) 0 (q.l (.slice np2 q.nodes.length nc2) (.slice gp2 q.pages.length gc2)) ∧ V.cell? ⟨w.heap.size, 45, .none⟩ = some (.slice gp1 p.pages.length gc1) ∧ V.cell? ⟨w.heap.size + 1, 45, .none⟩ = some (.slice gp2 q.pages.length gc2)) 12 [] (by kernel_rfl) ?_
  have HK : Hid (∀ V, Below W2.heap.size W2 V → V.rangeAt w.heap.size 0 (p.l (.slice np1 p.nodes.length nc1) (.slice gp1 p.pages.length gc1)) ∧ V.rangeAt (w.heap.size + 1) 0 (q.l (.slice np2 q.nodes.length nc2) (.slice gp2 q.pages.length gc2)) ∧ V.cell? ⟨w.heap.size, 45, .none⟩ = some (.slice gp1 p.pages.length gc1) ∧ V.cell? ⟨w.heap.size + 1, 45, .none⟩ = some (.slice gp2 q.pages.length gc2)) := fun V hV => by
    have e1 := range_keep r1 hV (by have := HB.out.2; omega : w.heap.size < W2.heap.size)
    have e2 := range_keep r2 hV (by have := HB.out.2; omega : w.heap.size + 1 < W2.heap.size)
    refine ⟨e1, e2, ?_, ?_⟩
    · have := e1 45 _ rfl; rw [Nat.zero_add] at this; exact this
    · have := e2 45 _ rfl; rw [Nat.zero_add] at this; exact this
  have hS : (fun V : World => V.rangeAt w.heap.size 0 (p.l (.slice np1 p.nodes.length nc1) (.slice gp1 p.pages.length gc1)) ∧ V.rangeAt (w.heap.size + 1) 0 (q.l (.slice np2 q.nodes.length nc2) (.slice gp2 q.pages.length gc2)) ∧ V.cell? ⟨w.heap.size, 45, .none⟩ = some (.slice gp1 p.pages.length gc1) ∧ V.cell? ⟨w.heap.size + 1, 45, .none⟩ = some (.slice gp2 q.pages.length gc2)) W2.drew := HK.out _ (Below.refl _ _).drew
  clear r1 r2
  refine set_take (i := 0) (v := .agg ((p.l (.slice np1 p.nodes.length nc1) (.slice gp1 p.pages.length gc1))).toArray) rfl (by kernel_rfl) (by kernel_rfl) (by kernel_rfl) (by kernel_rfl) (fun _ _ _ h => h) (yieldsIf_load_mid (by rfl) 55 (.tmp 2) rfl (w.heap.size) (0) rfl ((p.l (.slice np1 p.nodes.length nc1) (.slice gp1 p.pages.length gc1))) _ (fun ww hSw => hSw.1) Try.underlying55 rfl (by first | kernel_rfl | (rw [rfl]; kernel_rfl))) hS ?_
  simp only [Act.put, List.setIfInBounds_toArray, List.set_cons_zero, List.set_cons_succ, List.getElem_toArray, List.getElem_cons_succ, List.getElem_cons_zero]
  refine set_take (i := 2) (v := .agg ((q.l (.slice np2 q.nodes.length nc2) (.slice gp2 q.pages.length gc2))).toArray) rfl (by kernel_rfl) (by kernel_rfl) (by kernel_rfl) (by kernel_rfl) (fun _ _ _ h => h) (yieldsIf_load_mid (by rfl) 55 (.tmp 3) rfl (w.heap.size + 1) (0) rfl ((q.l (.slice np2 q.nodes.length nc2) (.slice gp2 q.pages.length gc2))) _ (fun ww hSw => hSw.2.1) Try.underlying55 rfl (by first | kernel_rfl | (rw [rfl]; kernel_rfl))) hS ?_
  simp only [Act.put, List.setIfInBounds_toArray, List.set_cons_zero, List.set_cons_succ, List.getElem_toArray, List.getElem_cons_succ, List.getElem_cons_zero]
  refine set_only (i := 1) (by kernel_rfl) rfl (by rfl) (fun K hK => ?_)
  go_simp
  go_at_call 60
  refine (plainP_any p np1 gp1 p.nodes.length nc1 p.pages.length gc1 _).mono ?_
  rintro e V1 ⟨rfl, q1⟩
  have q1d : Below W2.heap.size W2 V1 := (Below.refl _ _).drew.trans q1
  have hS1 := HK.out V1 q1d
  clear hS
  refine hK.out _ _ (fun _ => hS1) ?_
  clear hK K
  try simp only [Act.put, List.setIfInBounds_toArray, List.set_cons_zero, List.set_cons_succ, List.getElem_toArray, List.getElem_cons_succ, List.getElem_cons_zero]
  refine set_only (i := 3) (by kernel_rfl) rfl (by rfl) (fun K hK => ?_)
  go_simp
  go_at_call 60
  refine (plainP_any q np2 gp2 q.nodes.length nc2 q.pages.length gc2 _).mono ?_
  rintro e V2 ⟨rfl, q2⟩
  have q3 : Below W2.heap.size W2 V2 := q1d.trans (q2.mono q1d.size)
  have hS2 := HK.out V2 q3
  clear hS1
  refine hK.out _ _ (fun _ => hS2) ?_
  clear hK K
  try simp only [Act.put, List.setIfInBounds_toArray, List.set_cons_zero, List.set_cons_succ, List.getElem_toArray, List.getElem_cons_succ, List.getElem_cons_zero]
  refine set_take (i := 4) (v := .bool false) rfl (by kernel_rfl) (by kernel_rfl) (by kernel_rfl) (by kernel_rfl) (fun _ _ _ h => h) (Or.inl ⟨by rfl, fun ww hSw => by obtain ⟨hs1, hs2, hs3, hs4⟩ := hSw; go_simp⟩) hS2 ?_
  simp only [Act.put, List.setIfInBounds_toArray, List.set_cons_zero, List.set_cons_succ, List.getElem_toArray, List.getElem_cons_succ, List.getElem_cons_zero]
  refine set_take (i := 5) (v := .bool false) rfl (by kernel_rfl) (by kernel_rfl) (by kernel_rfl) (by kernel_rfl) (fun _ _ _ h => h) (Or.inl ⟨by rfl, fun ww hSw => by obtain ⟨hs1, hs2, hs3, hs4⟩ := hSw; go_simp⟩) hS2 ?_
  simp only [Act.put, List.setIfInBounds_toArray, List.set_cons_zero, List.set_cons_succ, List.getElem_toArray, List.getElem_cons_succ, List.getElem_cons_zero]
  refine set_take (i := 6) (v := undef) rfl (by kernel_rfl) (by kernel_rfl) (by kernel_rfl) (by kernel_rfl) (fun _ _ _ h => h) (Or.inr ⟨by rfl, rfl⟩) hS2 ?_
  simp only [Act.put, List.setIfInBounds_toArray, List.set_cons_zero, List.set_cons_succ, List.getElem_toArray, List.getElem_cons_succ, List.getElem_cons_zero]
  refine set_take (i := 7) (v := undef) rfl (by kernel_rfl) (by kernel_rfl) (by kernel_rfl) (by kernel_rfl) (fun _ _ _ h => h) (Or.inr ⟨by rfl, rfl⟩) hS2 ?_
  simp only [Act.put, List.setIfInBounds_toArray, List.set_cons_zero, List.set_cons_succ, List.getElem_toArray, List.getElem_cons_succ, List.getElem_cons_zero]
  refine set_take (i := 8) (v := undef) rfl (by kernel_rfl) (by kernel_rfl) (by kernel_rfl) (by kernel_rfl) (fun _ _ _ h => h) (Or.inr ⟨by rfl, rfl⟩) hS2 ?_
  simp only [Act.put, List.setIfInBounds_toArray, List.set_cons_zero, List.set_cons_succ, List.getElem_toArray, List.getElem_cons_succ, List.getElem_cons_zero]
  refine set_take (i := 9) (v := undef) rfl (by kernel_rfl) (by kernel_rfl) (by kernel_rfl) (by kernel_rfl) (fun _ _ _ h => h) (Or.inr ⟨by rfl, rfl⟩) hS2 ?_
  simp only [Act.put, List.setIfInBounds_toArray, List.set_cons_zero, List.set_cons_succ, List.getElem_toArray, List.getElem_cons_succ, List.getElem_cons_zero]
  refine set_take (i := 10) (v := undef) rfl (by kernel_rfl) (by kernel_rfl) (by kernel_rfl) (by kernel_rfl) (fun _ _ _ h => h) (Or.inr ⟨by rfl, rfl⟩) hS2 ?_
  simp only [Act.put, List.setIfInBounds_toArray, List.set_cons_zero, List.set_cons_succ, List.getElem_toArray, List.getElem_cons_succ, List.getElem_cons_zero]
  refine set_take (i := 11) (v := .bool false) rfl (by kernel_rfl) (by kernel_rfl) (by kernel_rfl) (by kernel_rfl) (fun _ _ _ h => h) (Or.inl ⟨by rfl, fun ww hSw => by obtain ⟨hs1, hs2, hs3, hs4⟩ := hSw; go_simp⟩) hS2 ?_
  simp only [Act.put, List.setIfInBounds_toArray, List.set_cons_zero, List.set_cons_succ, List.getElem_toArray, List.getElem_cons_succ, List.getElem_cons_zero]
  refine set_tail 1 12 _ _ _ _ (by kernel_rfl) (by decide) ?_
  simp only [List.toList_toArray, List.drop_succ_cons, List.drop_zero]
  clear hS2
  go_wp2
  go_ret
  exact ⟨by rw [HC.out, Bool.false_and]; rfl, HB.out.1.trans (q3.mono (by have := HB.out.2; omega))⟩
set_option maxRecDepth 100000 in
theorem pipe46_true {w : World} {X Y : Nat} (hX : X ≤ w.heap.size) (hY : Y ≤ w.heap.size) (x y : Pp) (np1 np2 : Option Addr) (nc1 nc2 : Nat) (h1 : Bt w X (.slice np1 x.bs.length nc1) x.bs) (h2 : Bt w Y (.slice np2 y.bs.length nc2) y.bs) (hn : x.bs.length ≤ 10000000) (hm : y.bs.length ≤ 10000000) (hb : plQ x y = true) : Calls Try.prog 46 #[.agg (x.l (.slice np1 x.bs.length nc1)).toArray, .agg (y.l (.slice np2 y.bs.length nc2)).toArray] w fun e w' => e = .returned (.bool (cmQ x y)) ∧ Below w.heap.size w w' := by
  have g140 : ∀ op u v xs ys (w : World), (eqGuard op 140 u v (.agg xs) (.agg ys)).run Try.prog w = .ok () w := fun op u v xs ys w => run_eqGuard_agg w op 140 u v xs ys (by kernel_rfl)
  have q140 : ∀ w : World, (binOp .eql 140 (.agg (pqL x).toArray) (.agg (pqL y).toArray)).run Try.prog w = .ok (.bool true) w := fun w => by rw [← hb]; exact eqv_eql (eq_140 9996 x y) w
  have HC : Hid (cmQ x y = (true && allB cmB x.bs y.bs)) := by show _ = _; unfold cmQ; rw [hb]
  have HG : Hid (∀ V, Below w.heap.size w V → Calls Try.prog 47 #[.slice np1 x.bs.length nc1, .slice np2 y.bs.length nc2, .func (.func 48) #[] #[]] V fun e w' => e = .returned (.bool (allB cmB x.bs y.bs)) ∧ Below V.heap.size V w') := fun V hV => same47_any (Wd.keep h1 (X' := X) (Nat.le_refl _) (hV.mono hX)) (Wd.keep h2 (X' := Y) (Nat.le_refl _) (hV.mono hY)) (Nat.le_trans hX hV.size) (Nat.le_trans hY hV.size) hn hm cmB (fun w' _ x y => byte48_any x y w')
  clear h1 h2 hb hn hm hX hY
  go_enter Try.func46, Try.ntmps46
  go_upto_region 1 with (first
    | (refine wpList_is (.box 98 (.tmp 0)) rfl ?_; refine wpList_boxG 98 (x.l (.slice np1 x.bs.length nc1)) 2 (.tmp 0) _ rfl rfl rfl rfl ?_; intro W1 hW1 hB1 hs1)
    | (refine wpList_is (.box 98 (.tmp 1)) rfl ?_; refine wpList_boxG 98 (y.l (.slice np2 y.bs.length nc2)) 3 (.tmp 1) _ rfl rfl rfl rfl ?_; intro W2 hW2 hB2 hs2; rw [hs1] at hW2 hs2 ⊢)
    | fail)
  have r1 : W2.rangeAt w.heap.size 0 (x.l (.slice np1 x.bs.length nc1)) := range_keep (range_heap hW1) hB2 (by omega)
  have r2 : W2.rangeAt (w.heap.size + 1) 0 (y.l (.slice np2 y.bs.length nc2)) := range_heap hW2
  have HB : Hid (Below w.heap.size w W2 ∧ W2.heap.size = w.heap.size + 2) := ⟨hB1.trans (hB2.mono (by omega)), by omega⟩
  clear hW1 hW2 hB1 hB2 hs1 hs2
  refine region_set (fun V => V.rangeAt w.heap.size 0 (x.l (.slice np1 x.bs.length nc1)) ∧ V.rangeAt (w.heap.size + 1) 0 (y.l (.slice np2 y.bs.length nc2)) ∧ V.cell? ⟨w.heap.size, 1, .none⟩ = some (.slice np1 x.bs.length nc1) ∧ V.cell? ⟨w.heap.size + 1, 1, .none⟩ = some (.slice np2 y.bs.length nc2)) 14 [] (by kernel_rfl) ?_
  have HK : Hid (∀ V, Below W2.heap.size W2 V → V.rangeAt w.heap.size 0 (x.l (.slice np1 x.bs.length nc1)) ∧ V.rangeAt (w.heap.size + 1) 0 (y.l (.slice np2 y.bs.length nc2)) ∧ V.cell? ⟨w.heap.size, 1, .none⟩ = some (.slice np1 x.bs.length nc1) ∧ V.cell? ⟨w.heap.size + 1, 1, .none⟩ = some (.slice np2 y.bs.length nc2)) := fun V hV => by
    have e1 := range_keep r1 hV (by have := HB.out.2; omega : w.heap.size < W2.heap.size)
    have e2 := range_keep r2 hV (by have := HB.out.2; omega : w.heap.size + 1 < W2.heap.size)
    refine ⟨e1, e2, ?_, ?_⟩
    · have := e1 1 _ rfl; rw [Nat.zero_add] at this; exact this
    · have := e2 1 _ rfl; rw [Nat.zero_add] at this; exact this
  have hS : (fun V : World => V.rangeAt w.heap.size 0 (x.l (.slice np1 x.bs.length nc1)) ∧ V.rangeAt (w.heap.size + 1) 0 (y.l (.slice np2 y.bs.length nc2)) ∧ V.cell? ⟨w.heap.size, 1, .none⟩ = some (.slice np1 x.bs.length nc1) ∧ V.cell? ⟨w.heap.size + 1, 1, .none⟩ = some (.slice np2 y.bs.length nc2)) W2.drew := HK.out _ (Below.refl _ _).drew
  clear r1 r2
  refine set_take (i := 0) (v := .agg ((x.l (.slice np1 x.bs.length nc1))).toArray) rfl (by kernel_rfl) (by kernel_rfl) (by kernel_rfl) (by kernel_rfl) (fun _ _ _ h => h) (yieldsIf_load_mid (by rfl) 98 (.tmp 2) rfl (w.heap.size) (0) rfl ((x.l (.slice np1 x.bs.length nc1))) _ (fun ww hSw => hSw.1) Try.underlying98 rfl (by first | kernel_rfl | (rw [rfl]; kernel_rfl))) hS ?_
  simp only [Act.put, List.setIfInBounds_toArray, List.set_cons_zero, List.set_cons_succ, List.getElem_toArray, List.getElem_cons_succ, List.getElem_cons_zero]
  refine set_take (i := 2) (v := .agg ((y.l (.slice np2 y.bs.length nc2))).toArray) rfl (by kernel_rfl) (by kernel_rfl) (by kernel_rfl) (by kernel_rfl) (fun _ _ _ h => h) (yieldsIf_load_mid (by rfl) 98 (.tmp 3) rfl (w.heap.size + 1) (0) rfl ((y.l (.slice np2 y.bs.length nc2))) _ (fun ww hSw => hSw.2.1) Try.underlying98 rfl (by first | kernel_rfl | (rw [rfl]; kernel_rfl))) hS ?_
  simp only [Act.put, List.setIfInBounds_toArray, List.set_cons_zero, List.set_cons_succ, List.getElem_toArray, List.getElem_cons_succ, List.getElem_cons_zero]
  refine set_only (i := 1) (by kernel_rfl) rfl (by rfl) (fun K hK => ?_)
  go_simp
  go_at_call 64
  refine (plainQ_any x (.slice np1 x.bs.length nc1) _).mono ?_
  rintro e V1 ⟨rfl, q1⟩
  have q1d : Below W2.heap.size W2 V1 := (Below.refl _ _).drew.trans q1
  have hS1 := HK.out V1 q1d
  clear hS
  refine hK.out _ _ (fun _ => hS1) ?_
  clear hK K
  try simp only [Act.put, List.setIfInBounds_toArray, List.set_cons_zero, List.set_cons_succ, List.getElem_toArray, List.getElem_cons_succ, List.getElem_cons_zero]
  refine set_only (i := 3) (by kernel_rfl) rfl (by rfl) (fun K hK => ?_)
  go_simp
  go_at_call 64
  refine (plainQ_any y (.slice np2 y.bs.length nc2) _).mono ?_
  rintro e V2 ⟨rfl, q2⟩
  have q3 : Below W2.heap.size W2 V2 := q1d.trans (q2.mono q1d.size)
  have hS2 := HK.out V2 q3
  clear hS1
  refine hK.out _ _ (fun _ => hS2) ?_
  clear hK K
  try simp only [Act.put, List.setIfInBounds_toArray, List.set_cons_zero, List.set_cons_succ, List.getElem_toArray, List.getElem_cons_succ, List.getElem_cons_zero]
  refine set_take (i := 4) (v := .bool true) rfl (by kernel_rfl) (by kernel_rfl) (by kernel_rfl) (by kernel_rfl) (fun _ _ _ h => h) (Or.inl ⟨by rfl, fun ww hSw => by obtain ⟨hs1, hs2, hs3, hs4⟩ := hSw; go_simp⟩) hS2 ?_
  simp only [Act.put, List.setIfInBounds_toArray, List.set_cons_zero, List.set_cons_succ, List.getElem_toArray, List.getElem_cons_succ, List.getElem_cons_zero]
  refine set_take (i := 5) (v := .bool true) rfl (by kernel_rfl) (by kernel_rfl) (by kernel_rfl) (by kernel_rfl) (fun _ _ _ h => h) (Or.inl ⟨by rfl, fun ww hSw => by obtain ⟨hs1, hs2, hs3, hs4⟩ := hSw; go_simp⟩) hS2 ?_
  simp only [Act.put, List.setIfInBounds_toArray, List.set_cons_zero, List.set_cons_succ, List.getElem_toArray, List.getElem_cons_succ, List.getElem_cons_zero]
  refine set_take (i := 6) (v := .pointer (some ⟨w.heap.size, 1, .none⟩)) rfl (by kernel_rfl) (by kernel_rfl) (by kernel_rfl) (by kernel_rfl) (fun _ _ _ h => h) (Or.inl ⟨by rfl, fun ww hSw => by obtain ⟨hs1, hs2, hs3, hs4⟩ := hSw; go_simp⟩) hS2 ?_
  simp only [Act.put, List.setIfInBounds_toArray, List.set_cons_zero, List.set_cons_succ, List.getElem_toArray, List.getElem_cons_succ, List.getElem_cons_zero]
  refine set_take (i := 9) (v := .pointer (some ⟨w.heap.size + 1, 1, .none⟩)) rfl (by kernel_rfl) (by kernel_rfl) (by kernel_rfl) (by kernel_rfl) (fun _ _ _ h => h) (Or.inl ⟨by rfl, fun ww hSw => by obtain ⟨hs1, hs2, hs3, hs4⟩ := hSw; go_simp⟩) hS2 ?_
  simp only [Act.put, List.setIfInBounds_toArray, List.set_cons_zero, List.set_cons_succ, List.getElem_toArray, List.getElem_cons_succ, List.getElem_cons_zero]
  refine set_take (i := 7) (v := .pointer (some ⟨w.heap.size, 1, .none⟩)) rfl (by kernel_rfl) (by kernel_rfl) (by kernel_rfl) (by kernel_rfl) (fun _ _ _ h => h) (Or.inl ⟨by rfl, fun ww hSw => by obtain ⟨hs1, hs2, hs3, hs4⟩ := hSw; go_simp⟩) hS2 ?_
  simp only [Act.put, List.setIfInBounds_toArray, List.set_cons_zero, List.set_cons_succ, List.getElem_toArray, List.getElem_cons_succ, List.getElem_cons_zero]
  refine set_take (i := 10) (v := .pointer (some ⟨w.heap.size + 1, 1, .none⟩)) rfl (by kernel_rfl) (by kernel_rfl) (by kernel_rfl) (by kernel_rfl) (fun _ _ _ h => h) (Or.inl ⟨by rfl, fun ww hSw => by obtain ⟨hs1, hs2, hs3, hs4⟩ := hSw; go_simp⟩) hS2 ?_
  simp only [Act.put, List.setIfInBounds_toArray, List.set_cons_zero, List.set_cons_succ, List.getElem_toArray, List.getElem_cons_succ, List.getElem_cons_zero]
  refine set_take (i := 8) (v := .slice np1 x.bs.length nc1) rfl (by kernel_rfl) (by kernel_rfl) (by kernel_rfl) (by kernel_rfl) (fun _ _ _ h => h) (Or.inl ⟨by rfl, fun ww hSw => by obtain ⟨hs1, hs2, hs3, hs4⟩ := hSw; go_simp⟩) hS2 ?_
  simp only [Act.put, List.setIfInBounds_toArray, List.set_cons_zero, List.set_cons_succ, List.getElem_toArray, List.getElem_cons_succ, List.getElem_cons_zero]
  refine set_take (i := 11) (v := .slice np2 y.bs.length nc2) rfl (by kernel_rfl) (by kernel_rfl) (by kernel_rfl) (by kernel_rfl) (fun _ _ _ h => h) (Or.inl ⟨by rfl, fun ww hSw => by obtain ⟨hs1, hs2, hs3, hs4⟩ := hSw; go_simp⟩) hS2 ?_
  simp only [Act.put, List.setIfInBounds_toArray, List.set_cons_zero, List.set_cons_succ, List.getElem_toArray, List.getElem_cons_succ, List.getElem_cons_zero]
  refine set_only (i := 12) (by kernel_rfl) rfl (by rfl) (fun K hK => ?_)
  go_simp
  go_at_call 47
  refine (HG.out _ (HB.out.1.trans (q3.mono (by have := HB.out.2; omega)))).mono ?_
  rintro e V3 ⟨rfl, q4⟩
  have q5 : Below W2.heap.size W2 V3 := q3.trans (q4.mono q3.size)
  have hS3 := HK.out V3 q5
  clear hS2
  refine hK.out _ _ (fun _ => hS3) ?_
  clear hK K
  try simp only [Act.put, List.setIfInBounds_toArray, List.set_cons_zero, List.set_cons_succ, List.getElem_toArray, List.getElem_cons_succ, List.getElem_cons_zero]
  generalize hal : allB cmB x.bs y.bs = al at *
  refine set_take (i := 13) (v := .bool al) rfl (by kernel_rfl) (by kernel_rfl) (by kernel_rfl) (by kernel_rfl) (fun _ _ _ h => h) (Or.inl ⟨by rfl, fun ww hSw => by obtain ⟨hs1, hs2, hs3, hs4⟩ := hSw; go_simp⟩) hS3 ?_
  simp only [Act.put, List.setIfInBounds_toArray, List.set_cons_zero, List.set_cons_succ, List.getElem_toArray, List.getElem_cons_succ, List.getElem_cons_zero]
  refine set_tail 1 14 _ _ _ _ (by kernel_rfl) (by decide) ?_
  simp only [List.toList_toArray, List.drop_succ_cons, List.drop_zero]
  clear hS3
  go_wp2
  go_ret
  exact ⟨by rw [HC.out, Bool.true_and]; rfl, HB.out.1.trans (q5.mono (by have := HB.out.2; omega))⟩
set_option maxRecDepth 100000 in
theorem pipe46_false {w : World} {X Y : Nat} (hX : X ≤ w.heap.size) (hY : Y ≤ w.heap.size) (x y : Pp) (np1 np2 : Option Addr) (nc1 nc2 : Nat) (h1 : Bt w X (.slice np1 x.bs.length nc1) x.bs) (h2 : Bt w Y (.slice np2 y.bs.length nc2) y.bs) (hn : x.bs.length ≤ 10000000) (hm : y.bs.length ≤ 10000000) (hb : plQ x y = false) : Calls Try.prog 46 #[.agg (x.l (.slice np1 x.bs.length nc1)).toArray, .agg (y.l (.slice np2 y.bs.length nc2)).toArray] w fun e w' => e = .returned (.bool (cmQ x y)) ∧ Below w.heap.size w w' := by
  have g140 : ∀ op u v xs ys (w : World), (eqGuard op 140 u v (.agg xs) (.agg ys)).run Try.prog w = .ok () w := fun op u v xs ys w => run_eqGuard_agg w op 140 u v xs ys (by kernel_rfl)
  have q140 : ∀ w : World, (binOp .eql 140 (.agg (pqL x).toArray) (.agg (pqL y).toArray)).run Try.prog w = .ok (.bool false) w := fun w => by rw [← hb]; exact eqv_eql (eq_140 9996 x y) w
  have HC : Hid (cmQ x y = (false && allB cmB x.bs y.bs)) := by show _ = _; unfold cmQ; rw [hb]
  have HG : Hid (∀ V, Below w.heap.size w V → Calls Try.prog 47 #[.slice np1 x.bs.length nc1, .slice np2 y.bs.length nc2, .func (.func 48) #[] #[]] V fun e w' => e = .returned (.bool (allB cmB x.bs y.bs)) ∧ Below V.heap.size V w') := fun V hV => same47_any (Wd.keep h1 (X' := X) (Nat.le_refl _) (hV.mono hX)) (Wd.keep h2 (X' := Y) (Nat.le_refl _) (hV.mono hY)) (Nat.le_trans hX hV.size) (Nat.le_trans hY hV.size) hn hm cmB (fun w' _ x y => byte48_any x y w')
  clear h1 h2 hb hn hm hX hY
  go_enter Try.func46, Try.ntmps46
  go_upto_region 1 with (first
    | (refine wpList_is (.box 98 (.tmp 0)) rfl ?_; refine wpList_boxG 98 (x.l (.slice np1 x.bs.length nc1)) 2 (.tmp 0) _ rfl rfl rfl rfl ?_; intro W1 hW1 hB1 hs1)
    | (refine wpList_is (.box 98 (.tmp 1)) rfl ?_; refine wpList_boxG 98 (y.l (.slice np2 y.bs.length nc2)) 3 (.tmp 1) _ rfl rfl rfl rfl ?_; intro W2 hW2 hB2 hs2; rw [hs1] at hW2 hs2 ⊢)
    | fail)
  have r1 : W2.rangeAt w.heap.size 0 (x.l (.slice np1 x.bs.length nc1)) := range_keep (range_heap hW1) hB2 (by omega)
  have r2 : W2.rangeAt (w.heap.size + 1) 0 (y.l (.slice np2 y.bs.length nc2)) := range_heap hW2
  have HB : Hid (Below w.heap.size w W2 ∧ W2.heap.size = w.heap.size + 2) := ⟨hB1.trans (hB2.mono (by omega)), by omega⟩
  clear hW1 hW2 hB1 hB2 hs1 hs2
  refine region_set (fun V => V.rangeAt w.heap.size 0 (x.l (.slice np1 x.bs.length nc1)) ∧ V.rangeAt (w.heap.size + 1) 0 (y.l (.slice np2 y.bs.length nc2)) ∧ V.cell? ⟨w.heap.size, 1, .none⟩ = some (.slice np1 x.bs.length nc1) ∧ V.cell? ⟨w.heap.size + 1, 1, .none⟩ = some (.slice np2 y.bs.length nc2)) 14 [] (by kernel_rfl) ?_
  have HK : Hid (∀ V, Below W2.heap.size W2 V → V.rangeAt w.heap.size 0 (x.l (.slice np1 x.bs.length nc1)) ∧ V.rangeAt (w.heap.size + 1) 0 (y.l (.slice np2 y.bs.length nc2)) ∧ V.cell? ⟨w.heap.size, 1, .none⟩ = some (.slice np1 x.bs.length nc1) ∧ V.cell? ⟨w.heap.size + 1, 1, .none⟩ = some (.slice np2 y.bs.length nc2)) := fun V hV => by
    have e1 := range_keep r1 hV (by have := HB.out.2; omega : w.heap.size < W2.heap.size)
    have e2 := range_keep r2 hV (by have := HB.out.2; omega : w.heap.size + 1 < W2.heap.size)
    refine ⟨e1, e2, ?_, ?_⟩
    · have := e1 1 _ rfl; rw [Nat.zero_add] at this; exact this
    · have := e2 1 _ rfl; rw [Nat.zero_add] at this; exact this
  have hS : (fun V : World => V.rangeAt w.heap.size 0 (x.l (.slice np1 x.bs.length nc1)) ∧ V.rangeAt (w.heap.size + 1) 0 (y.l (.slice np2 y.bs.length nc2)) ∧ V.cell? ⟨w.heap.size, 1, .none⟩ = some (.slice np1 x.bs.length nc1) ∧ V.cell? ⟨w.heap.size + 1, 1, .none⟩ = some (.slice np2 y.bs.length nc2)) W2.drew := HK.out _ (Below.refl _ _).drew
  clear r1 r2
  refine set_take (i := 0) (v := .agg ((x.l (.slice np1 x.bs.length nc1))).toArray) rfl (by kernel_rfl) (by kernel_rfl) (by kernel_rfl) (by kernel_rfl) (fun _ _ _ h => h) (yieldsIf_load_mid (by rfl) 98 (.tmp 2) rfl (w.heap.size) (0) rfl ((x.l (.slice np1 x.bs.length nc1))) _ (fun ww hSw => hSw.1) Try.underlying98 rfl (by first | kernel_rfl | (rw [rfl]; kernel_rfl))) hS ?_
  simp only [Act.put, List.setIfInBounds_toArray, List.set_cons_zero, List.set_cons_succ, List.getElem_toArray, List.getElem_cons_succ, List.getElem_cons_zero]
  refine set_take (i := 2) (v := .agg ((y.l (.slice np2 y.bs.length nc2))).toArray) rfl (by kernel_rfl) (by kernel_rfl) (by kernel_rfl) (by kernel_rfl) (fun _ _ _ h => h) (yieldsIf_load_mid (by rfl) 98 (.tmp 3) rfl (w.heap.size + 1) (0) rfl ((y.l (.slice np2 y.bs.length nc2))) _ (fun ww hSw => hSw.2.1) Try.underlying98 rfl (by first | kernel_rfl | (rw [rfl]; kernel_rfl))) hS ?_
  simp only [Act.put, List.setIfInBounds_toArray, List.set_cons_zero, List.set_cons_succ, List.getElem_toArray, List.getElem_cons_succ, List.getElem_cons_zero]
  refine set_only (i := 1) (by kernel_rfl) rfl (by rfl) (fun K hK => ?_)
  go_simp
  go_at_call 64
  refine (plainQ_any x (.slice np1 x.bs.length nc1) _).mono ?_
  rintro e V1 ⟨rfl, q1⟩
  have q1d : Below W2.heap.size W2 V1 := (Below.refl _ _).drew.trans q1
  have hS1 := HK.out V1 q1d
  clear hS
  refine hK.out _ _ (fun _ => hS1) ?_
  clear hK K
  try simp only [Act.put, List.setIfInBounds_toArray, List.set_cons_zero, List.set_cons_succ, List.getElem_toArray, List.getElem_cons_succ, List.getElem_cons_zero]
  refine set_only (i := 3) (by kernel_rfl) rfl (by rfl) (fun K hK => ?_)
  go_simp
  go_at_call 64
  refine (plainQ_any y (.slice np2 y.bs.length nc2) _).mono ?_
  rintro e V2 ⟨rfl, q2⟩
  have q3 : Below W2.heap.size W2 V2 := q1d.trans (q2.mono q1d.size)
  have hS2 := HK.out V2 q3
  clear hS1
  refine hK.out _ _ (fun _ => hS2) ?_
  clear hK K
  try simp only [Act.put, List.setIfInBounds_toArray, List.set_cons_zero, List.set_cons_succ, List.getElem_toArray, List.getElem_cons_succ, List.getElem_cons_zero]
  refine set_take (i := 4) (v := .bool false) rfl (by kernel_rfl) (by kernel_rfl) (by kernel_rfl) (by kernel_rfl) (fun _ _ _ h => h) (Or.inl ⟨by rfl, fun ww hSw => by obtain ⟨hs1, hs2, hs3, hs4⟩ := hSw; go_simp⟩) hS2 ?_
  simp only [Act.put, List.setIfInBounds_toArray, List.set_cons_zero, List.set_cons_succ, List.getElem_toArray, List.getElem_cons_succ, List.getElem_cons_zero]
  refine set_take (i := 5) (v := .bool false) rfl (by kernel_rfl) (by kernel_rfl) (by kernel_rfl) (by kernel_rfl) (fun _ _ _ h => h) (Or.inl ⟨by rfl, fun ww hSw => by obtain ⟨hs1, hs2, hs3, hs4⟩ := hSw; go_simp⟩) hS2 ?_
  simp only [Act.put, List.setIfInBounds_toArray, List.set_cons_zero, List.set_cons_succ, List.getElem_toArray, List.getElem_cons_succ, List.getElem_cons_zero]
  refine set_take (i := 6) (v := undef) rfl (by kernel_rfl) (by kernel_rfl) (by kernel_rfl) (by kernel_rfl) (fun _ _ _ h => h) (Or.inr ⟨by rfl, rfl⟩) hS2 ?_
  simp only [Act.put, List.setIfInBounds_toArray, List.set_cons_zero, List.set_cons_succ, List.getElem_toArray, List.getElem_cons_succ, List.getElem_cons_zero]
  refine set_take (i := 7) (v := undef) rfl (by kernel_rfl) (by kernel_rfl) (by kernel_rfl) (by kernel_rfl) (fun _ _ _ h => h) (Or.inr ⟨by rfl, rfl⟩) hS2 ?_
  simp only [Act.put, List.setIfInBounds_toArray, List.set_cons_zero, List.set_cons_succ, List.getElem_toArray, List.getElem_cons_succ, List.getElem_cons_zero]
  refine set_take (i := 8) (v := undef) rfl (by kernel_rfl) (by kernel_rfl) (by kernel_rfl) (by kernel_rfl) (fun _ _ _ h => h) (Or.inr ⟨by rfl, rfl⟩) hS2 ?_
  simp only [Act.put, List.setIfInBounds_toArray, List.set_cons_zero, List.set_cons_succ, List.getElem_toArray, List.getElem_cons_succ, List.getElem_cons_zero]
  refine set_take (i := 9) (v := undef) rfl (by kernel_rfl) (by kernel_rfl) (by kernel_rfl) (by kernel_rfl) (fun _ _ _ h => h) (Or.inr ⟨by rfl, rfl⟩) hS2 ?_
  simp only [Act.put, List.setIfInBounds_toArray, List.set_cons_zero, List.set_cons_succ, List.getElem_toArray, List.getElem_cons_succ, List.getElem_cons_zero]
  refine set_take (i := 10) (v := undef) rfl (by kernel_rfl) (by kernel_rfl) (by kernel_rfl) (by kernel_rfl) (fun _ _ _ h => h) (Or.inr ⟨by rfl, rfl⟩) hS2 ?_
  simp only [Act.put, List.setIfInBounds_toArray, List.set_cons_zero, List.set_cons_succ, List.getElem_toArray, List.getElem_cons_succ, List.getElem_cons_zero]
  refine set_take (i := 11) (v := undef) rfl (by kernel_rfl) (by kernel_rfl) (by kernel_rfl) (by kernel_rfl) (fun _ _ _ h => h) (Or.inr ⟨by rfl, rfl⟩) hS2 ?_
  simp only [Act.put, List.setIfInBounds_toArray, List.set_cons_zero, List.set_cons_succ, List.getElem_toArray, List.getElem_cons_succ, List.getElem_cons_zero]
  refine set_take (i := 12) (v := undef) rfl (by kernel_rfl) (by kernel_rfl) (by kernel_rfl) (by kernel_rfl) (fun _ _ _ h => h) (Or.inr ⟨by rfl, rfl⟩) hS2 ?_
  simp only [Act.put, List.setIfInBounds_toArray, List.set_cons_zero, List.set_cons_succ, List.getElem_toArray, List.getElem_cons_succ, List.getElem_cons_zero]
  refine set_take (i := 13) (v := .bool false) rfl (by kernel_rfl) (by kernel_rfl) (by kernel_rfl) (by kernel_rfl) (fun _ _ _ h => h) (Or.inl ⟨by rfl, fun ww hSw => by obtain ⟨hs1, hs2, hs3, hs4⟩ := hSw; go_simp⟩) hS2 ?_
  simp only [Act.put, List.setIfInBounds_toArray, List.set_cons_zero, List.set_cons_succ, List.getElem_toArray, List.getElem_cons_succ, List.getElem_cons_zero]
  refine set_tail 1 14 _ _ _ _ (by kernel_rfl) (by decide) ?_
  simp only [List.toList_toArray, List.drop_succ_cons, List.drop_zero]
  clear hS2
  go_wp2
  go_ret
  exact ⟨by rw [HC.out, Bool.false_and]; rfl, HB.out.1.trans (q3.mono (by have := HB.out.2; omega))⟩
end Go.Proofs.Ythopgmmodldljaa
