import Derived.Test.YtjbealefopajcaaDoorSi
import Derived.Laws.BytesString
import Derived.Laws.Cells
namespace Go.Proofs.YtjbealefopajcaaDoor
open Go Go.RowKit Rg
set_option linter.unusedVariables false
set_option linter.unusedSimpArgs false
/-! Words in quotes, of the program. -/
def toB (ns : List Int) : ByteArray := ns.foldl (fun r n => r.push (UInt8.ofNat n.toNat)) ByteArray.empty
def bsI (s : ByteArray) : List Int := s.data.toList.map fun b => ((b.toNat : Nat) : Int)
theorem bsI_len (s : ByteArray) : (bsI s).length = s.size := by unfold bsI; rw [List.length_map]; rfl
theorem bsI_bd (s : ByteArray) : ∀ x ∈ bsI s, 0 ≤ x ∧ x < 256 := by
  intro x hx
  obtain ⟨b, _, rfl⟩ := List.mem_map.1 hx
  have := b.toNat_lt
  omega
theorem conv_own {w : World} {base n c : Nat} {p : Option Addr} {ys : List Int} (h : w.ownsRow base 5 1 (.slice p n c) n (by8 ys)) (hn : ys.length = n) (h0 : 0 < n) : (convert 41 9 (.slice p n c)).run Tryd.prog w = .ok (.string (toB ys)) w := by
  rcases h.2 with ⟨_, h1⟩ | ⟨g, cap, cur, hv, _⟩
  · omega
  · cases hv
    rw [run_convert_bytes_string w 41 9 5 _ n c Tryd.underlying41 Tryd.underlying5 Tryd.underlying9]
    have hl : (loadCells (⟨g, 0, .none⟩ : Addr) n).run Tryd.prog w = .ok (ys.map (Value.int .u8)).toArray w := by
      have := run_loadCells_list (P := Tryd.prog) (w := w) ⟨g, 0, .none⟩ (by8 ys) (fun j v hj => by
        have := h.cells (g := g) rfl j v hj
        simpa [Addr.add] using this)
      rw [by8_len, hn] at this
      exact this
    exact run_bytesToString w _ n c ys hl
def qt (ds : List Int) : List Int := [34] ++ ds.flatMap qb ++ [34]
theorem qb_len (x : Int) : (qb x).length ≤ 4 := by
  unfold qb
  repeat (first | split | simp [hexD])
theorem flat_len4 : ∀ (ds : List Int), (ds.flatMap qb).length ≤ 4 * ds.length
  | [] => by simp
  | x :: ds => by
    have := flat_len4 ds
    have := qb_len x
    rw [List.flatMap_cons, List.length_append, List.length_cons]
    omega
theorem take_flat {ds : List Int} {i : Nat} {x : Int} (h : ds[i]? = some x) : (ds.take i).flatMap qb ++ qb x = (ds.take (i + 1)).flatMap qb := by
  rw [List.take_add_one, h, List.flatMap_append]
  simp
end Go.Proofs.YtjbealefopajcaaDoor
