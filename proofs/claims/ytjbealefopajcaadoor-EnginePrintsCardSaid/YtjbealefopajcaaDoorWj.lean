import Derived.Test.YtjbealefopajcaaDoorWi
namespace Go.Proofs.YtjbealefopajcaaDoor
open Go Go.RowKit Rg
set_option linter.unusedVariables false
set_option linter.unusedSimpArgs false
set_option maxRecDepth 100000
/-! A script that is lent: its rows, each in a block of its own. -/
/-- A list's data: the block and the room of each. -/
abbrev Gc := Nat × Nat
def dv (gc : Gc) (n : Nat) : Value := .slice (some ⟨gc.1, 0, .none⟩) n gc.2
def rowD (xs : List Int) (gc : Gc) : Row := ⟨5, 1, xs.length + 64, dv gc (xs.length + 64), by8 (xs ++ marks)⟩
def flC (x : Fl × Gc) : List Value := x.1.l (dv x.2 x.1.data.length)
def ipC (x : Ip × Gc) : List Value := x.1.l (dv x.2 x.1.data.length)
def rowFl (fv : Value) (FL : List (Fl × Gc)) : Row := ⟨43, 5, FL.length, fv, FL.flatMap flC⟩
def rowIp (iv : Value) (IL : List (Ip × Gc)) : Row := ⟨45, 2, IL.length, iv, IL.flatMap ipC⟩
def rowTk (tv : Value) (ts : List Int) : Row := ⟨3, 1, ts.length, tv, ts.map (Value.int .i64)⟩
def rowsD (FL : List (Fl × Gc)) : List Row := FL.map fun x => rowD x.1.data x.2
def rowsE (IL : List (Ip × Gc)) : List Row := IL.map fun x => rowD x.1.data x.2
/-- All rows of a lent script. -/
def rowsS (fv tv iv : Value) (FL : List (Fl × Gc)) (ts : List Int) (IL : List (Ip × Gc)) : List Row := [rowFl fv FL, rowTk tv ts, rowIp iv IL] ++ (rowsD FL ++ rowsE IL)
theorem bt_lent {w : World} {base n : Nat} {gc : Gc} {xs : List Int} (h : w.ownsRow base 5 1 (dv gc (xs.length + 64)) (xs.length + 64) (by8 (xs ++ marks))) : Bt w w.heap.size (dv gc xs.length) xs := by
  obtain ⟨g, c⟩ := gc
  have hc := own_cap h
  refine ⟨_, _, rfl, ⟨by omega, hc.2⟩, .inr ⟨g, 0, rfl, own_lt h, fun i x hx => ⟨[.int .u8 x], rfl, rfl, fun j v hj => ?_⟩⟩⟩
  have hil := (List.getElem?_eq_some_iff.1 hx).1
  have h1 := h.cells (g := g) rfl i (.int .u8 x) (by8_get (by rw [List.getElem?_append_left hil]; exact hx))
  rw [le_addr_add] at h1
  cases j with
  | zero =>
    obtain rfl : Value.int .u8 x = v := Option.some.inj hj
    rw [Nat.mul_one, Nat.add_zero]
    exact h1
  | succ j => cases hj
theorem flat1 : ∀ ts : List Int, ts.map (Value.int .i64) = (ts.map fun t => [Value.int .i64 t]).flatten
  | [] => rfl
  | t :: ts => by rw [List.map_cons, List.map_cons, List.flatten_cons, ← flat1 ts]; rfl
/-- A lent script reads as it is. -/
theorem scw_lent {w : World} {base : Nat} {fv tv iv : Value} {FL : List (Fl × Gc)} {ts : List Int} {IL : List (Ip × Gc)} {fr bu : Int} {init : ByteArray} (h : Owns w base (rowsS fv tv iv FL ts IL)) :
    ScW w w.heap.size fv tv iv ⟨fr, FL.map (·.1), init, bu, ts, IL.map (·.1)⟩ := by
  have hF := h.own (rowFl fv FL) (by simp [rowsS])
  have hT := h.own (rowTk tv ts) (by simp [rowsS])
  have hI := h.own (rowIp iv IL) (by simp [rowsS])
  refine ⟨?_, ?_, ?_⟩
  · refine Sl.ofOwn hF (C := FL.map flC) (List.flatMap_def ..) (fun c hc => ?_) (by simp [rowFl]) (by simp [rowFl]) (fun i x cs hx hcs => ?_)
    · obtain ⟨y, _, rfl⟩ := List.mem_map.1 hc
      rfl
    · simp only [List.getElem?_map, Option.map_eq_some_iff] at hx hcs
      obtain ⟨y, hy, rfl⟩ := hx
      obtain ⟨y', hy', rfl⟩ := hcs
      rw [hy] at hy'
      cases hy'
      refine ⟨_, rfl, bt_lent (n := 0) (base := base) (h.own (rowD y.1.data y.2) ?_)⟩
      simp only [rowsS, List.mem_append]
      exact .inr (.inl (List.mem_map_of_mem (f := fun x : Fl × Gc => rowD x.1.data x.2) (List.mem_of_getElem? hy)))
  · refine Sl.ofOwn hT (C := ts.map fun t => [Value.int .i64 t]) (flat1 ts) (fun c hc => ?_) rfl (by simp [rowTk]) (fun i x cs hx hcs => ?_)
    · obtain ⟨y, _, rfl⟩ := List.mem_map.1 hc
      rfl
    · simp only [List.getElem?_map, Option.map_eq_some_iff] at hcs
      obtain ⟨y, hy, rfl⟩ := hcs
      rw [hx] at hy
      cases hy
      rfl
  · refine Sl.ofOwn hI (C := IL.map ipC) (List.flatMap_def ..) (fun c hc => ?_) (by simp [rowIp]) (by simp [rowIp]) (fun i x cs hx hcs => ?_)
    · obtain ⟨y, _, rfl⟩ := List.mem_map.1 hc
      rfl
    · simp only [List.getElem?_map, Option.map_eq_some_iff] at hx hcs
      obtain ⟨y, hy, rfl⟩ := hx
      obtain ⟨y', hy', rfl⟩ := hcs
      rw [hy] at hy'
      cases hy'
      refine ⟨_, rfl, bt_lent (n := 0) (base := base) (h.own (rowD y.1.data y.2) ?_)⟩
      simp only [rowsS, List.mem_append]
      exact .inr (.inr (List.mem_map_of_mem (f := fun x : Ip × Gc => rowD x.1.data x.2) (List.mem_of_getElem? hy)))
theorem byt_of {w : World} {X n c : Nat} {p : Option Addr} {xs : List Int} (h : Bt w X (.slice p n c) xs) (hX : X ≤ w.heap.size) : Byt w p n c xs := by
  have h1 := h.cap
  have h2 := h.capm
  refine ⟨h1.1.symm, h1.2, h2, ?_⟩
  obtain ⟨p', c', hv, hlc, h3⟩ := h
  cases hv
  rcases h3 with h3 | ⟨b, o, rfl, hb, hr⟩
  · left; rw [h3]; rfl
  · refine .inr ⟨b, o, rfl, by omega, fun i x hx => ?_⟩
    obtain ⟨cs, hq, hl, hc⟩ := hr i x hx
    obtain rfl : cs = [.int .u8 x] := hq
    have := hc 0 _ rfl
    rwa [Nat.mul_one, Nat.add_zero] at this
end Go.Proofs.YtjbealefopajcaaDoor
