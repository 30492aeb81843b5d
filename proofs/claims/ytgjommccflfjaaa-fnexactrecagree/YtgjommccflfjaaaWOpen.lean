/-
  What the reading of a world tells.
-/
import Derived.Test.YtgjommccflfjaaaRecOpen
import Derived.Test.YtgjommccflfjaaaWWorld
namespace Go.Proofs.Ytgjommccflfjaaa
open Go.ChangeShapes Go.WideShapes Go.ChangeAt Go.RowKit Go.Deep Go.Joins
set_option linter.unusedVariables false
set_option linter.unusedSimpArgs false

set_option maxRecDepth 100000 in
set_option maxHeartbeats 4000000 in
/-- a laws.Recorder's cells -/
theorem rec_cells {H : Type} {enc : TypeId × Value → H} {W : World} {sp : Nat → Bool} {fuel : Nat} {cs : List Value} {y : DataW H × List MemPlace} (hf0 : DataW.trod enc Try.prog W 0 sp true fuel 91 cs = some y) :
    ∃ r p, cs = (rcV r p).toList ∧ RcAt W r p := by
  obtain ⟨xs, k, _, _, hl, hlen, hf⟩ := DataW.trod_struct Try.underlying91 hf0
  rw [cellsLRec] at hl
  obtain ⟨c0, c1, c2, c3, c4, c5, c6, c7, c8, c9, c10, c11, c12, c13, c14, c15, c16, c17, hcs⟩ := list18 hl
  have hlen' : xs.length = 14 := hlen
  have f0 : DataW.trod enc Try.prog W 0 sp true k 3 (List.take (Try.prog.cellsOf 3) (List.drop 0 cs)) = xs[0]? := hf 0 _ rfl
  have f1 : DataW.trod enc Try.prog W 0 sp true k 3 (List.take (Try.prog.cellsOf 3) (List.drop 1 cs)) = xs[1]? := hf 1 _ rfl
  have f2 : DataW.trod enc Try.prog W 0 sp true k 4 (List.take (Try.prog.cellsOf 4) (List.drop 2 cs)) = xs[2]? := hf 2 _ rfl
  have f3 : DataW.trod enc Try.prog W 0 sp true k 88 (List.take (Try.prog.cellsOf 88) (List.drop 3 cs)) = xs[3]? := hf 3 _ rfl
  have f4 : DataW.trod enc Try.prog W 0 sp true k 88 (List.take (Try.prog.cellsOf 88) (List.drop 6 cs)) = xs[4]? := hf 4 _ rfl
  have f5 : DataW.trod enc Try.prog W 0 sp true k 32 (List.take (Try.prog.cellsOf 32) (List.drop 9 cs)) = xs[5]? := hf 5 _ rfl
  have f6 : DataW.trod enc Try.prog W 0 sp true k 47 (List.take (Try.prog.cellsOf 47) (List.drop 10 cs)) = xs[6]? := hf 6 _ rfl
  have f7 : DataW.trod enc Try.prog W 0 sp true k 4 (List.take (Try.prog.cellsOf 4) (List.drop 11 cs)) = xs[7]? := hf 7 _ rfl
  have f8 : DataW.trod enc Try.prog W 0 sp true k 4 (List.take (Try.prog.cellsOf 4) (List.drop 12 cs)) = xs[8]? := hf 8 _ rfl
  have f9 : DataW.trod enc Try.prog W 0 sp true k 3 (List.take (Try.prog.cellsOf 3) (List.drop 13 cs)) = xs[9]? := hf 9 _ rfl
  have f10 : DataW.trod enc Try.prog W 0 sp true k 48 (List.take (Try.prog.cellsOf 48) (List.drop 14 cs)) = xs[10]? := hf 10 _ rfl
  have f11 : DataW.trod enc Try.prog W 0 sp true k 86 (List.take (Try.prog.cellsOf 86) (List.drop 15 cs)) = xs[11]? := hf 11 _ rfl
  have f12 : DataW.trod enc Try.prog W 0 sp true k 89 (List.take (Try.prog.cellsOf 89) (List.drop 16 cs)) = xs[12]? := hf 12 _ rfl
  have f13 : DataW.trod enc Try.prog W 0 sp true k 3 (List.take (Try.prog.cellsOf 3) (List.drop 17 cs)) = xs[13]? := hf 13 _ rfl
  rw [hcs] at f0 f1 f2 f3 f4 f5 f6 f7 f8 f9 f10 f11 f12 f13
  simp only [cellsInt, cellsBool, cellsLDisk, cellsLMsgs, cellsStrs, cellsInts, cellsLSlots, cellsLAcks, List.drop_succ_cons, List.drop_zero, List.take_succ_cons, List.take_zero] at f0 f1 f2 f3 f4 f5 f6 f7 f8 f9 f10 f11 f12 f13
  obtain ⟨num, rfl, _⟩ := int_of f0 (some_of hlen' 0 (by omega))
  obtain ⟨of_, rfl, _⟩ := int_of f1 (some_of hlen' 1 (by omega))
  obtain ⟨up, rfl⟩ := bool_of f2 (some_of hlen' 2 (by omega))
  obtain ⟨sp', sk, aS, nS, cS, ss, eS, rfl, mS, hS⟩ := disk_cells f3 (some_of hlen' 3 (by omega))
  obtain ⟨dp, dk, aD, nD, cD, ds, eD, rfl, mD, hD⟩ := disk_cells f4 (some_of hlen' 4 (by omega))
  obtain ⟨aH, nH, cH, held, rfl, rfl, mH, hH⟩ := msgs_ofT f5 (some_of hlen' 5 (by omega))
  obtain ⟨aW, nW, cW, wish, rfl, rfl, mW, hW⟩ := strs_ofT f6 (some_of hlen' 6 (by omega))
  obtain ⟨lead, rfl⟩ := bool_of f7 (some_of hlen' 7 (by omega))
  obtain ⟨tr, rfl⟩ := bool_of f8 (some_of hlen' 8 (by omega))
  obtain ⟨ball, rfl, _⟩ := int_of f9 (some_of hlen' 9 (by omega))
  obtain ⟨aY, nY, cY, yes, rfl, rfl, mY, hY⟩ := ints_ofT f10 (some_of hlen' 10 (by omega))
  obtain ⟨aB, nB, cB, best, rfl, rfl, mB, hB⟩ := slots_of f11 (some_of hlen' 11 (by omega))
  obtain ⟨aA, nA, cA, acks, rfl, rfl, mA, hA⟩ := acks_ofT f12 (some_of hlen' 12 (by omega))
  obtain ⟨heard, rfl, _⟩ := int_of f13 (some_of hlen' 13 (by omega))
  simp only [List.cons.injEq, and_true] at eS eD
  obtain ⟨rfl, rfl, rfl⟩ := eS
  obtain ⟨rfl, rfl, rfl⟩ := eD
  exact ⟨⟨num, of_, up, sp', sk, ss, dp, dk, ds, held, wish, lead, tr, ball, yes, best, acks, heard⟩, ⟨aS, cS, aD, cD, aH, cH, aW, cW, aY, cY, aB, cB, aA, cA⟩, hcs, ⟨hS, mS, hD, mD, hH, mH, hW, mW, hY, mY, hB, mB, hA, mA⟩⟩

theorem recs_open {H : Type} {enc : TypeId × Value → H} {W : World} {sp : Nat → Bool} {fuel : Nat} {v : Value} {y : DataW H × List MemPlace} (h : DataW.trod enc Try.prog W 0 sp true fuel 31 [v] = some y) :
    ∃ a n cap l, v = .slice a n cap ∧ List.length l = n ∧ n ≤ maxLen ∧ RecsAt W a l := by
  rcases open_slice Try.underlying31 h with ⟨hcs, _⟩ | ⟨x, len, cap, m, k, D, Pl, hcs, _, hl, hm, hmm, _, hx⟩
  · simp only [List.cons.injEq, and_true] at hcs
    exact ⟨none, 0, 0, [], hcs, rfl, by unfold maxLen; omega, fun i s hs => by simp at hs⟩
  · simp only [List.cons.injEq, and_true] at hcs
    have hlm : len ≤ m := by rw [hmm]; split <;> omega
    rw [cellsLRec] at hx
    have inh : Inhabited (Rc × RcP) := ⟨(⟨0, 0, false, 0, 0, [], 0, 0, [], [], [], false, false, 0, [], [], [], 0⟩, ⟨none, 0, none, 0, none, 0, none, 0, none, 0, none, 0, none, 0⟩)⟩
    have each : ∀ i, i < len → ∃ q : Rc × RcP, (∀ j, j < 18 → W.cell? ((x.add (i * 18)).add j) = (rcV q.1 q.2).toList[j]?) ∧ RcAt W q.1 q.2 := fun i hi => by
      obtain ⟨cs, h1, h2⟩ := hx i (by omega)
      obtain ⟨_, _, hcell⟩ := World.cells?_some h1
      obtain ⟨r, p, rfl, hR⟩ := rec_cells h2
      exact ⟨(r, p), hcell, hR⟩
    obtain ⟨q, hq⟩ := choose_lt each
    refine ⟨some x, len, cap, (List.range len).map fun i => (q i).1, hcs, by simp, by omega, fun i s hs => ?_⟩
    have hi : i < len := by
      have := (List.getElem?_eq_some_iff.1 hs).1
      simpa using this
    simp only [List.getElem?_map, List.getElem?_range hi, Option.map_some, Option.some.injEq] at hs
    subst hs
    obtain ⟨hc, hR⟩ := hq i hi
    obtain ⟨b, off, spot⟩ := x
    have hspot : spot = none := by simpa [Addr.add] using World.cell?_spot (((hq 0 (by omega)).1 0 (by omega)).trans rfl)
    subst hspot
    have hc' : ∀ j, j < 18 → W.cell? ⟨b, off + i * 18 + j, none⟩ = (rcV (q i).1 (q i).2).toList[j]? := fun j hj => by
      have := hc j hj
      rwa [Addr.add_mid, Addr.add_mid] at this
    refine ⟨b, off, (q i).2, rfl, World.block_lt_of_cell? W _ (hc' 0 (by omega)), fun j u hu => ?_, hR⟩
    rw [← hu]
    exact hc' j (by have := (List.getElem?_eq_some_iff.1 hu).1; simpa using this)

set_option maxRecDepth 100000 in
/-- a laws.RecWorld that came in -/
theorem world_open {H : Type} {enc : TypeId × Value → H} {W : World} {base : Nat} {v : Value} {d : DataW H} {p : List MemPlace}
    (hv : Value.okWide Try.prog W .any base 35 v) (h : DataW.Trod enc Try.prog W 0 (fun _ => true) true 35 v d p) :
    ∃ D P, v = .agg (wdV D P) ∧ WdAt W D P := by
  obtain ⟨v0, v1, v2, y0, y1, y2, m, rfl, _, _, h0, h1, h2⟩ := open_agg3 Try.underlying35 (by kernel_rfl) (by kernel_rfl) hv h
  obtain ⟨aR, nR, cR, lR, rfl, rfl, mR, hR⟩ := recs_open h0
  obtain ⟨aF, nF, cF, lF, rfl, rfl, mF, hF⟩ := msgs_open h1
  obtain ⟨aX, nX, cX, lX, rfl, rfl, mX, hX⟩ := fixs_open h2
  exact ⟨⟨lR, lF, lX⟩, ⟨aR, cR, aF, cF, aX, cX⟩, rfl, ⟨hR, mR, hF, mF, hX, mX⟩⟩
end Go.Proofs.Ytgjommccflfjaaa
