/-
  What the reading of an argument tells: slots, a disk.
-/
import Derived.Test.YtffklmlljekceaaGreatSlotsTo
import Derived.Deep.SlicePairs
import Derived.Lib.SmallJoins
namespace Go.Proofs.YtffklmlljekceaaGreat
open Go.ChangeShapes Go.WideShapes Go.ChangeAt Go.RowKit Go.Deep Go.Joins
set_option linter.unusedVariables false
set_option linter.unusedSimpArgs false

def strOf : Value → ByteArray | .string t => t | _ => ByteArray.empty
theorem slots_open {H : Type} {enc : TypeId × Value → H} {W : World} {sp : Nat → Bool} {fuel : Nat} {v : Value} {y : DataW H × List MemPlace}
    (h : DataW.trod enc Tryz.prog W 0 sp true fuel 22 [v] = some y) :
    ∃ a n cap l, v = .slice a n cap ∧ List.length l = n ∧ n ≤ maxLen ∧ SlotsAt W a l := by
  rcases open_slice_pairs Tryz.underlying22 Tryz.underlying94 (by kernel_rfl) rfl rfl (by kernel_rfl) (by kernel_rfl) h with ⟨hcs, _⟩ | ⟨x, len, cap, m, k, V0, V1, D0, D1, P0, P1, hcs, _, hl, hm, hmm, _, hx⟩
  · simp only [List.cons.injEq, and_true] at hcs
    exact ⟨none, 0, 0, [], hcs, rfl, by unfold maxLen; omega, fun i s hs => by simp at hs⟩
  · simp only [List.cons.injEq, and_true] at hcs
    have hlm : len ≤ m := by rw [hmm]; split <;> omega
    refine ⟨some x, len, cap, (List.range len).map fun i => (intOf (V0 i), strOf (V1 i)), hcs, by simp, by omega, fun i s hs => ?_⟩
    have hi : i < len := by
      have := (List.getElem?_eq_some_iff.1 hs).1
      simpa using this
    simp only [List.getElem?_map, List.getElem?_range hi, Option.map_some, Option.some.injEq] at hs
    subst hs
    obtain ⟨c0, c1, t0, t1⟩ := hx i (by omega)
    obtain ⟨z, e0, _, wz⟩ := DataW.trod_int Tryz.underlying3 t0
    obtain ⟨t, e1, _, ht⟩ := DataW.trod_string Tryz.underlying9 t1
    simp only [List.cons.injEq, and_true] at e0 e1
    obtain ⟨b, off, spot⟩ := x
    have hspot : spot = none := by simpa [Addr.add] using World.cell?_spot (hx 0 (by omega)).1
    subst hspot
    rw [Addr.add_mid] at c0 c1
    rw [e0] at c0 ⊢
    rw [e1] at c1 ⊢
    exact ⟨b, off, rfl, World.block_lt_of_cell? W _ c0, c0, by simpa [Nat.add_assoc, strOf] using c1, ht, wz⟩

set_option maxRecDepth 100000 in
/-- a laws.RecDisk that came in -/
theorem disk_open {H : Type} {enc : TypeId × Value → H} {W : World} {base : Nat} {v : Value} {d : DataW H} {p : List MemPlace}
    (hv : Value.okWide Tryz.prog W .any base 24 v) (h : DataW.Trod enc Tryz.prog W 0 (fun _ => true) true 24 v d p) :
    ∃ x y a n cap l, v = .agg #[.int .i64 x, .int .i64 y, .slice a n cap] ∧ List.length l = n ∧ n ≤ maxLen ∧ SlotsAt W a l := by
  obtain ⟨v0, v1, v2, y0, y1, y2, m, rfl, _, _, h0, h1, h2⟩ := open_agg3 Tryz.underlying24 (by kernel_rfl) (by kernel_rfl) hv h
  obtain ⟨x, e0, _, _⟩ := DataW.trod_int Tryz.underlying3 h0
  obtain ⟨y, e1, _, _⟩ := DataW.trod_int Tryz.underlying3 h1
  obtain ⟨a, n, cap, l, rfl, hn, hm, hs⟩ := slots_open h2
  simp only [List.cons.injEq, and_true] at e0 e1
  subst e0 e1
  exact ⟨x, y, a, n, cap, l, rfl, hn, hm, hs⟩
end Go.Proofs.YtffklmlljekceaaGreat
