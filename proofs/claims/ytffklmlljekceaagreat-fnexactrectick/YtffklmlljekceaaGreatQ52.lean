import Derived.Test.YtffklmlljekceaaGreatQ14
import Derived.Deep.Strs
namespace Go.Proofs.YtffklmlljekceaaGreat
open Go.ChangeShapes Go.WideShapes Go.ChangeAt Go.RowKit
set_option linter.unusedSimpArgs false
set_option linter.unusedVariables false
set_option maxHeartbeats 4000000
set_option maxRecDepth 100000
theorem own_row {w : World} {B g k n : Nat} {e : TypeId} {C : Array Value} {xs : List Value} (h : Blk w g C e) (hC : C.toList = xs) (hl : xs.length = n * k) (hB : B ≤ g) (hn : n ≤ maxLen) : w.ownsRow B e k (.slice (some ⟨g, 0, none⟩) n n) n xs :=
 ⟨hl, .inr ⟨g, n, C, rfl, hB, h, Nat.le_refl _, hn, by rw [← hl, ← hC, Array.length_toList], by rw [hC, ← hl, List.take_length]⟩⟩
theorem row_one {w : World} {B g k n t : Nat} {e : TypeId} {col : Nat → Nat} {xs : List Value} (h : w.ownsRow B e k (.slice (some ⟨g, 0, none⟩) n n) n xs) (hc : col g = t) : RowC B w col t e k (some ⟨g, 0, none⟩) n n xs :=
 ⟨h, fun x hx => by simp only [Option.some.injEq] at hx; rw [← hx]; exact hc⟩
theorem slots_row {w : World} {B g t : Nat} {col : Nat → Nat} {l : List Sl} (h : SlotsOwn w g l) (hB : B ≤ g) (hn : l.length ≤ maxLen) (hc : col g = t) : RowC B w col t 108 2 (some ⟨g, 0, none⟩) l.length l.length (flat l) :=
 row_one (own_row (own_blk h) (by simp) (flat_len l) hB hn) hc
theorem ones_list {α : Type} {enc : α → Value} {C : Array Value} {l : List α} (h : OnesTo enc C l l.length) : C.toList = l.map enc := by
 apply List.ext_getElem?
 intro i
 rcases Nat.lt_or_ge i l.length with hi | hi
 ·have hs : l[i]? = some l[i] := List.getElem?_eq_getElem hi
  rw [Array.getElem?_toList, h.2 i _ hi hs, List.getElem?_map, hs]; rfl
 rw [List.getElem?_eq_none (by rw [Array.length_toList, h.1]; exact hi), List.getElem?_eq_none (by rw [List.length_map]; exact hi)]
theorem ints_row {w : World} {B g t : Nat} {col : Nat → Nat} {l : List Int} (h : IntsOwn w g l) (hB : B ≤ g) (hn : l.length ≤ maxLen) (hc : col g = t) : RowC B w col t 3 1 (some ⟨g, 0, none⟩) l.length l.length (flatI l) := by
 obtain ⟨C, h1, h2⟩ := h
 exact row_one (own_row h1 (ones_list h2) (by simp [flatI]) hB hn) hc
theorem strs_row {w : World} {B g t : Nat} {col : Nat → Nat} {l : List ByteArray} (h : StrsOwn w g l) (hB : B ≤ g) (hn : l.length ≤ maxLen) (hc : col g = t) : RowC B w col t 9 1 (some ⟨g, 0, none⟩) l.length l.length (flatT l) := by
 obtain ⟨C, h1, h2⟩ := h
 exact row_one (own_row h1 (ones_list h2) (by simp [flatT]) hB hn) hc
def placeM (G : Nat → Nat) (l : List Ms) : List Mp := l.zipIdx.map fun x => (x.1, some ⟨G x.2, 0, none⟩, x.1.2.length)
def placeA (G : Nat → Nat) (l : List Ak) : List Ap := l.zipIdx.map fun x => (x.1, some ⟨G x.2, 0, none⟩, x.1.2.length)
theorem placeM_at {G : Nat → Nat} {l : List Ms} {i : Nat} {s : Ms} (h : l[i]? = some s) : (placeM G l)[i]? = some (s, some ⟨G i, 0, none⟩, s.2.length) := by simp [placeM, List.getElem?_zipIdx, h]
theorem placeA_at {G : Nat → Nat} {l : List Ak} {i : Nat} {s : Ak} (h : l[i]? = some s) : (placeA G l)[i]? = some (s, some ⟨G i, 0, none⟩, s.2.length) := by simp [placeA, List.getElem?_zipIdx, h]
theorem placeM_map (G : Nat → Nat) (l : List Ms) : (placeM G l).map (·.1) = l := by
 apply List.ext_getElem?
 intro i
 simp [placeM, List.getElem?_zipIdx]
 cases l[i]? <;> rfl
theorem placeA_map (G : Nat → Nat) (l : List Ak) : (placeA G l).map (·.1) = l := by
 apply List.ext_getElem?
 intro i
 simp [placeA, List.getElem?_zipIdx]
 cases l[i]? <;> rfl
theorem placeM_len (G : Nat → Nat) (l : List Ms) : (placeM G l).length = l.length := by simp [placeM]
theorem placeA_len (G : Nat → Nat) (l : List Ak) : (placeA G l).length = l.length := by simp [placeA]
theorem msgs_list {w : World} {g : Nat} {C : Array Value} {G : Nat → Nat} {l : List Ms} (h : MsgsTo w g C G l l.length) : C.toList = flatM (placeM G l) := by
 apply List.ext_getElem?
 intro j
 rcases Nat.lt_or_ge j (l.length * 8) with hj | hj
 ·have hi : j / 8 < l.length := by omega
  have hs : l[j / 8]? = some l[j / 8] := List.getElem?_eq_getElem hi
  obtain ⟨c0, c1, c2, c3, c4, c5, c6, c7, _⟩ := h.2 _ _ hi hs
  have e : j = j / 8 * 8 + j % 8 := by omega
  have ht : j % 8 < 8 := Nat.mod_lt _ (by omega)
  rw [Array.getElem?_toList]
  generalize j / 8 = i at *
  generalize j % 8 = t at *
  subst e
  rw [flatM_at _ i t _ (placeM_at hs) ht]
  rcases (by omega : t = 0 ∨ t = 1 ∨ t = 2 ∨ t = 3 ∨ t = 4 ∨ t = 5 ∨ t = 6 ∨ t = 7) with rfl | rfl | rfl | rfl | rfl | rfl | rfl | rfl
  ·exact c0
  ·exact c1
  ·exact c2
  ·exact c3
  ·exact c4
  ·exact c5
  ·exact c6
  exact c7
 rw [List.getElem?_eq_none (by rw [Array.length_toList, h.1]; exact hj), List.getElem?_eq_none (by rw [flatM_len, placeM_len]; exact hj)]
theorem acks_list {w : World} {g : Nat} {C : Array Value} {G : Nat → Nat} {l : List Ak} (h : AcksTo w g C G l l.length) : C.toList = flatA (placeA G l) := by
 apply List.ext_getElem?
 intro j
 rcases Nat.lt_or_ge j (l.length * 2) with hj | hj
 ·have hi : j / 2 < l.length := by omega
  have hs : l[j / 2]? = some l[j / 2] := List.getElem?_eq_getElem hi
  obtain ⟨c0, c1, _⟩ := h.2 _ _ hi hs
  have e : j = j / 2 * 2 + j % 2 := by omega
  have ht : j % 2 < 2 := Nat.mod_lt _ (by omega)
  rw [Array.getElem?_toList]
  generalize j / 2 = i at *
  generalize j % 2 = t at *
  subst e
  rw [flatA_at _ i t _ (placeA_at hs) ht]
  rcases (by omega : t = 0 ∨ t = 1) with rfl | rfl
  ·exact c0
  exact c1
 rw [List.getElem?_eq_none (by rw [Array.length_toList, h.1]; exact hj), List.getElem?_eq_none (by rw [flatA_len, placeA_len]; exact hj)]
def colO (gS gD gH BH gW gY gB gA b : Nat) : Nat := if b = gS then 0 else if b = gD then 1 else if b = gH then 2 else if b < BH then 7 else if b = gW then 3 else if b = gY then 4 else if b = gB then 5 else if b = gA then 6 else 8
theorem RcOwn.has {B : Nat} {w : World} {r : Rc} {p : RcP} (h : RcOwn w r p) (hg : RcAt w r p) (hB : ∀ x, p.aS = some x → B ≤ x.block) : ∃ X col, RcHas B w r p X col := by
 have good := hg.good
 have mS := hg.lS
 have mD := hg.lD
 have mH := hg.lH
 have mW := hg.lW
 have mY := hg.lY
 have mB := hg.lB
 have mA := hg.lA
 obtain ⟨gS, gD, gH, BH, gW, gY, gB, gA, rfl, ⟨l1, l2, l3, l4, l5, l6, l7⟩, oS, oD, ⟨CH, GH, kH, tH, bH⟩, oW, oY, oB, ⟨CA, GA, kA', tA⟩⟩ := h
 have b0 : B ≤ gS := hB _ rfl
 clear hB hg
 refine ⟨⟨placeM GH r.held, placeA GA r.acks⟩, colO gS gD gH BH gW gY gB gA, ?_⟩
 have inM : ∀ i s, r.held[i]? = some s → gH < GH i ∧ GH i < BH ∧ SlotsOwn w (GH i) s.2 ∧ ∀ j, j < i → GH j < GH i := fun i s hs => by
  have hi := (List.getElem?_eq_some_iff.1 hs).1
  obtain ⟨_, _, _, _, _, _, _, _, q1, q2, q3⟩ := tH.2 i s hi hs
  exact ⟨q2, bH i hi, q1, q3⟩
 have inA : ∀ i s, r.acks[i]? = some s → gA < GA i ∧ IntsOwn w (GA i) s.2 ∧ ∀ j, j < i → GA j < GA i := fun i s hs => by
  have hi := (List.getElem?_eq_some_iff.1 hs).1
  obtain ⟨_, _, q1, q2, q3⟩ := tA.2 i s hi hs
  exact ⟨q2, q1, q3⟩
 refine ⟨slots_row oS b0 mS (by simp [colO]), slots_row oD (by omega) mD ?_, row_one (own_row kH (msgs_list tH) (by rw [flatM_len, placeM_len]) (by omega) mH) ?_, placeM_map _ _, ⟨fun m hm => ?_, ?_⟩, strs_row oW (by omega) mW ?_, ints_row oY (by omega) mY ?_, slots_row oB (by omega) mB ?_, row_one (own_row kA' (acks_list tA) (by rw [flatA_len, placeA_len]) (by omega) mA) ?_, placeA_map _ _, ⟨fun m hm => ?_, ?_⟩, good⟩
 ·unfold colO; rw [if_neg (by omega), if_pos rfl]
 ·unfold colO; rw [if_neg (by omega), if_neg (by omega), if_pos rfl]
 ·obtain ⟨i, hi⟩ := List.mem_iff_getElem?.1 hm
  have hl := (List.getElem?_eq_some_iff.1 hi).1
  rw [placeM_len] at hl
  have hs : r.held[i]? = some r.held[i] := List.getElem?_eq_getElem hl
  rw [placeM_at hs] at hi
  simp only [Option.some.injEq] at hi
  rw [← hi]
  obtain ⟨q1, q2, q3, _⟩ := inM i _ hs
  refine slots_row q3 (by omega) ((good.h i _ hs).2.1) ?_
  unfold colO
  rw [if_neg (by omega), if_neg (by omega), if_neg (by omega), if_pos q2]
 ·rw [List.pairwise_iff_getElem]
  intro i j hi hj hij x x' hx hx'
  rw [placeM_len] at hi hj
  have h1 := placeM_at (G := GH) (List.getElem?_eq_getElem hi)
  have h2 := placeM_at (G := GH) (List.getElem?_eq_getElem hj)
  obtain ⟨_, e1⟩ := List.getElem?_eq_some_iff.1 h1
  obtain ⟨_, e2⟩ := List.getElem?_eq_some_iff.1 h2
  rw [e1] at hx
  rw [e2] at hx'
  simp only [Option.some.injEq] at hx hx'
  rw [← hx, ← hx']
  have := (inM j _ (List.getElem?_eq_getElem hj)).2.2.2 i hij
  dsimp only
  omega
 ·unfold colO; rw [if_neg (by omega), if_neg (by omega), if_neg (by omega), if_neg (by omega), if_pos rfl]
 ·unfold colO; rw [if_neg (by omega), if_neg (by omega), if_neg (by omega), if_neg (by omega), if_neg (by omega), if_pos rfl]
 ·unfold colO; rw [if_neg (by omega), if_neg (by omega), if_neg (by omega), if_neg (by omega), if_neg (by omega), if_neg (by omega), if_pos rfl]
 ·unfold colO; rw [if_neg (by omega), if_neg (by omega), if_neg (by omega), if_neg (by omega), if_neg (by omega), if_neg (by omega), if_neg (by omega), if_pos rfl]
 ·obtain ⟨i, hi⟩ := List.mem_iff_getElem?.1 hm
  have hl := (List.getElem?_eq_some_iff.1 hi).1
  rw [placeA_len] at hl
  have hs : r.acks[i]? = some r.acks[i] := List.getElem?_eq_getElem hl
  rw [placeA_at hs] at hi
  simp only [Option.some.injEq] at hi
  rw [← hi]
  obtain ⟨q1, q3, _⟩ := inA i _ hs
  refine ints_row q3 (by omega) ((good.a i _ hs).2.1) ?_
  unfold colO
  rw [if_neg (by omega), if_neg (by omega), if_neg (by omega), if_neg (by omega), if_neg (by omega), if_neg (by omega), if_neg (by omega), if_neg (by omega)]
 rw [List.pairwise_iff_getElem]
 intro i j hi hj hij x x' hx hx'
 rw [placeA_len] at hi hj
 have h1 := placeA_at (G := GA) (List.getElem?_eq_getElem hi)
 have h2 := placeA_at (G := GA) (List.getElem?_eq_getElem hj)
 obtain ⟨_, e1⟩ := List.getElem?_eq_some_iff.1 h1
 obtain ⟨_, e2⟩ := List.getElem?_eq_some_iff.1 h2
 rw [e1] at hx
 rw [e2] at hx'
 simp only [Option.some.injEq] at hx hx'
 rw [← hx, ← hx']
 have := (inA j _ (List.getElem?_eq_getElem hj)).2.2 i hij
 dsimp only
 omega
end Go.Proofs.YtffklmlljekceaaGreat
namespace Go.Proofs.YtffklmlljekceaaGreat
open Go.ChangeShapes Go.WideShapes Go.ChangeAt Go.RowKit Go.Deep Go.Joins
set_option linter.unusedSimpArgs false
set_option linter.unusedVariables false
set_option maxHeartbeats 4000000
set_option maxRecDepth 100000
theorem ints_open {H : Type} {enc : TypeId × Value → H} {W : World} {sp : Nat → Bool} {fuel : Nat} {v : Value} {y : DataW H × List MemPlace} (h : DataW.trod enc Tryz.prog W 0 sp true fuel 27 [v] = some y) :
  ∃ a n cap l, v = .slice a n cap ∧ List.length l = n ∧ n ≤ maxLen ∧ IntsAt W a l := by
 rcases open_ints Tryz.underlying27 Tryz.underlying3 (by kernel_rfl) h with ⟨hcs, _⟩ | ⟨x, len, cap, zs, hcs, _, hl, hm, hz, _, hx, hw⟩
 ·simp only [List.cons.injEq, and_true] at hcs
  exact ⟨none, 0, 0, [], hcs, rfl, by unfold maxLen; omega, fun i s hs => by simp at hs⟩
 simp only [List.cons.injEq, and_true] at hcs
 have hlm : len ≤ zs.length := by rw [hz]; split <;> omega
 refine ⟨some x, len, cap, zs.take len, hcs, by simp; omega, by omega, fun i s hs => ?_⟩
 have hi : i < len := by
  have := (List.getElem?_eq_some_iff.1 hs).1
  simp at this
  omega
 rw [List.getElem?_take_of_lt hi] at hs
 have c0 := hx i (by omega)
 rw [show zs.getD i 0 = s by simp [List.getD, hs]] at c0
 obtain ⟨b, off, spot⟩ := x
 have hspot : spot = none := by simpa [Addr.add] using World.cell?_spot (hx 0 (by omega))
 subst hspot
 rw [Addr.add_mid] at c0
 exact ⟨b, off, rfl, World.block_lt_of_cell? W _ c0, c0, hw s (List.mem_of_getElem? hs)⟩
theorem strs_open {H : Type} {enc : TypeId × Value → H} {W : World} {sp : Nat → Bool} {fuel : Nat} {v : Value} {y : DataW H × List MemPlace} (h : DataW.trod enc Tryz.prog W 0 sp true fuel 26 [v] = some y) :
  ∃ a n cap l, v = .slice a n cap ∧ List.length l = n ∧ n ≤ maxLen ∧ StrsAt W a l := by
 rcases open_strs Tryz.underlying26 Tryz.underlying9 (by kernel_rfl) h with ⟨hcs, _⟩ | ⟨x, len, cap, m, S, hcs, _, hl, hm, hmm, _, hx⟩
 ·simp only [List.cons.injEq, and_true] at hcs
  exact ⟨none, 0, 0, [], hcs, rfl, by unfold maxLen; omega, fun i s hs => by simp at hs⟩
 simp only [List.cons.injEq, and_true] at hcs
 have hlm : len ≤ m := by rw [hmm]; split <;> omega
 refine ⟨some x, len, cap, (List.range len).map S, hcs, by simp, by omega, fun i s hs => ?_⟩
 have hi : i < len := by
  have := (List.getElem?_eq_some_iff.1 hs).1
  simpa using this
 simp only [List.getElem?_map, List.getElem?_range hi, Option.map_some, Option.some.injEq] at hs
 subst hs
 obtain ⟨c0, ht⟩ := hx i (by omega)
 obtain ⟨b, off, spot⟩ := x
 have hspot : spot = none := by simpa [Addr.add] using World.cell?_spot (hx 0 (by omega)).1
 subst hspot
 rw [Addr.add_mid] at c0
 exact ⟨b, off, rfl, World.block_lt_of_cell? W _ c0, c0, ht⟩
theorem acks_open {H : Type} {enc : TypeId × Value → H} {W : World} {sp : Nat → Bool} {fuel : Nat} {v : Value} {y : DataW H × List MemPlace} (h : DataW.trod enc Tryz.prog W 0 sp true fuel 28 [v] = some y) :
  ∃ a n cap l, v = .slice a n cap ∧ List.length l = n ∧ n ≤ maxLen ∧ AcksAt W a l := by
 rcases open_slice_pairs Tryz.underlying28 Tryz.underlying97 (by kernel_rfl) rfl rfl (by kernel_rfl) (by kernel_rfl) h with ⟨hcs, _⟩ | ⟨x, len, cap, m, k, V0, V1, D0, D1, P0, P1, hcs, _, hl, hm, hmm, _, hx⟩
 ·simp only [List.cons.injEq, and_true] at hcs
  exact ⟨none, 0, 0, [], hcs, rfl, by unfold maxLen; omega, fun i s hs => by simp at hs⟩
 simp only [List.cons.injEq, and_true] at hcs
 have hlm : len ≤ m := by rw [hmm]; split <;> omega
 have each : ∀ i, i < len → ∃ q : (Int × List Int) × (Option Addr × Nat), V0 i = .int .i64 q.1.1 ∧ V1 i = .slice q.2.1 q.1.2.length q.2.2 ∧ wfI q.1.1 ∧ q.1.2.length ≤ maxLen ∧ IntsAt W q.2.1 q.1.2 := fun i hi => by
  obtain ⟨c0, c1, t0, t1⟩ := hx i (by omega)
  obtain ⟨z, e0, _, wz⟩ := DataW.trod_int Tryz.underlying3 t0
  obtain ⟨a, n, c, l, e1, hn, hmx, hI⟩ := ints_open t1
  simp only [List.cons.injEq, and_true] at e0
  subst hn
  exact ⟨((z, l), (a, c)), e0, e1, wz, hmx, hI⟩
 obtain ⟨q, hq⟩ := choose_lt each
 refine ⟨some x, len, cap, (List.range len).map fun i => (q i).1, hcs, by simp, by omega, fun i s hs => ?_⟩
 have hi : i < len := by
  have := (List.getElem?_eq_some_iff.1 hs).1
  simpa using this
 simp only [List.getElem?_map, List.getElem?_range hi, Option.map_some, Option.some.injEq] at hs
 subst hs
 obtain ⟨c0, c1, t0, t1⟩ := hx i (by omega)
 obtain ⟨e0, e1, r1, r2, r3⟩ := hq i hi
 obtain ⟨b, off, spot⟩ := x
 have hspot : spot = none := by simpa [Addr.add] using World.cell?_spot (hx 0 (by omega)).1
 subst hspot
 rw [Addr.add_mid] at c0 c1
 rw [e0] at c0
 rw [e1] at c1
 exact ⟨b, off, (q i).2.1, (q i).2.2, rfl, World.block_lt_of_cell? W _ c0, c0, by simpa [Nat.add_assoc] using c1, r1, r2, r3⟩
theorem msgs_open {H : Type} {enc : TypeId × Value → H} {W : World} {sp : Nat → Bool} {fuel : Nat} {v : Value} {y : DataW H × List MemPlace} (h : DataW.trod enc Tryz.prog W 0 sp true fuel 25 [v] = some y) :
  ∃ a n cap l, v = .slice a n cap ∧ List.length l = n ∧ n ≤ maxLen ∧ MsgsAt W a l := by
 rcases open_slice Tryz.underlying25 h with ⟨hcs, _⟩ | ⟨x, len, cap, m, k, D, Pl, hcs, _, hl, hm, hmm, _, hx⟩
 ·simp only [List.cons.injEq, and_true] at hcs
  exact ⟨none, 0, 0, [], hcs, rfl, by unfold maxLen; omega, fun i s hs => by simp at hs⟩
 simp only [List.cons.injEq, and_true] at hcs
 have hlm : len ≤ m := by rw [hmm]; split <;> omega
 rw [cellsLMsg] at hx
 have inh : Inhabited MsgH := ⟨⟨0, 0, 0, 0, 0, 0, ByteArray.empty⟩⟩
 have each : ∀ i, i < len → ∃ q : (MsgH × List Sl) × (Option Addr × Nat), (∀ j, j < 8 → W.cell? ((x.add (i * 8)).add j) = (msgV q.1.1 (.slice q.2.1 q.1.2.length q.2.2)).toList[j]?) ∧ q.1.1.x.size ≤ maxLen ∧ q.1.2.length ≤ maxLen ∧ SlotsAt W q.2.1 q.1.2 := fun i hi => by
  obtain ⟨cs, h1, h2⟩ := hx i (by omega)
  obtain ⟨_, _, hcell⟩ := World.cells?_some h1
  obtain ⟨mm, a, n, c, l, rfl, hmx, hn, hnm, hsl⟩ := msg_cells h2
  subst hn
  exact ⟨((mm, l), (a, c)), hcell, hmx, hnm, hsl⟩
 obtain ⟨q, hq⟩ := choose_lt each
 refine ⟨some x, len, cap, (List.range len).map fun i => (q i).1, hcs, by simp, by omega, fun i s hs => ?_⟩
 have hi : i < len := by
  have := (List.getElem?_eq_some_iff.1 hs).1
  simpa using this
 simp only [List.getElem?_map, List.getElem?_range hi, Option.map_some, Option.some.injEq] at hs
 subst hs
 obtain ⟨hc, r1, r2, r3⟩ := hq i hi
 obtain ⟨b, off, spot⟩ := x
 have hspot : spot = none := by simpa [Addr.add] using World.cell?_spot (((hq 0 (by omega)).1 0 (by omega)).trans rfl)
 subst hspot
 have c0 := hc 0 (by omega)
 have c1 := hc 1 (by omega)
 have c2 := hc 2 (by omega)
 have c3 := hc 3 (by omega)
 have c4 := hc 4 (by omega)
 have c5 := hc 5 (by omega)
 have c6 := hc 6 (by omega)
 have c7 := hc 7 (by omega)
 rw [Addr.add_mid, Addr.add_mid] at c0 c1 c2 c3 c4 c5 c6 c7
 exact ⟨b, off, (q i).2.1, (q i).2.2, rfl, World.block_lt_of_cell? W _ c0, c0, c1, c2, c3, c4, c5, c6, c7, r1, r2, r3⟩
theorem bool_of {H : Type} {enc : TypeId × Value → H} {W : World} {sp : Nat → Bool} {fuel : Nat} {c : Value} {o : Option (DataW H × List MemPlace)} (h : DataW.trod enc Tryz.prog W 0 sp true fuel 4 [c] = o) (ho : o.isSome = true) : ∃ b, c = .bool b := by
 obtain ⟨y, rfl⟩ := Option.isSome_iff_exists.1 ho
 obtain ⟨z, e, _⟩ := DataW.trod_bool Tryz.underlying4 h
 simp only [List.cons.injEq, and_true] at e
 exact ⟨z, e⟩
theorem ints_ofT {H : Type} {enc : TypeId × Value → H} {W : World} {sp : Nat → Bool} {fuel : Nat} {c : Value} {o : Option (DataW H × List MemPlace)} (h : DataW.trod enc Tryz.prog W 0 sp true fuel 27 [c] = o) (ho : o.isSome = true) : ∃ a n cap l, c = .slice a n cap ∧ List.length l = n ∧ n ≤ maxLen ∧ IntsAt W a l := by
 obtain ⟨y, rfl⟩ := Option.isSome_iff_exists.1 ho
 exact ints_open h
theorem strs_ofT {H : Type} {enc : TypeId × Value → H} {W : World} {sp : Nat → Bool} {fuel : Nat} {c : Value} {o : Option (DataW H × List MemPlace)} (h : DataW.trod enc Tryz.prog W 0 sp true fuel 26 [c] = o) (ho : o.isSome = true) : ∃ a n cap l, c = .slice a n cap ∧ List.length l = n ∧ n ≤ maxLen ∧ StrsAt W a l := by
 obtain ⟨y, rfl⟩ := Option.isSome_iff_exists.1 ho
 exact strs_open h
theorem acks_ofT {H : Type} {enc : TypeId × Value → H} {W : World} {sp : Nat → Bool} {fuel : Nat} {c : Value} {o : Option (DataW H × List MemPlace)} (h : DataW.trod enc Tryz.prog W 0 sp true fuel 28 [c] = o) (ho : o.isSome = true) : ∃ a n cap l, c = .slice a n cap ∧ List.length l = n ∧ n ≤ maxLen ∧ AcksAt W a l := by
 obtain ⟨y, rfl⟩ := Option.isSome_iff_exists.1 ho
 exact acks_open h
theorem msgs_ofT {H : Type} {enc : TypeId × Value → H} {W : World} {sp : Nat → Bool} {fuel : Nat} {c : Value} {o : Option (DataW H × List MemPlace)} (h : DataW.trod enc Tryz.prog W 0 sp true fuel 25 [c] = o) (ho : o.isSome = true) : ∃ a n cap l, c = .slice a n cap ∧ List.length l = n ∧ n ≤ maxLen ∧ MsgsAt W a l := by
 obtain ⟨y, rfl⟩ := Option.isSome_iff_exists.1 ho
 exact msgs_open h
theorem list3 {α : Type} {l : List α} (h : l.length = 3) : ∃ c0 c1 c2, l = [c0, c1, c2] := by
 match l, h with
 | [c0, c1, c2], _ => exact ⟨c0, c1, c2, rfl⟩
theorem cellsLDisk : Tryz.prog.cellsOf 24 = 3 := by kernel_rfl
theorem cellsInts : Tryz.prog.cellsOf 27 = 1 := by kernel_rfl
theorem cellsStrs : Tryz.prog.cellsOf 26 = 1 := by kernel_rfl
theorem cellsLAcks : Tryz.prog.cellsOf 28 = 1 := by kernel_rfl
theorem cellsLMsgs : Tryz.prog.cellsOf 25 = 1 := by kernel_rfl
theorem cellsLRec : Tryz.prog.cellsOf 30 = 18 := by kernel_rfl
theorem disk_cells {H : Type} {enc : TypeId × Value → H} {W : World} {sp : Nat → Bool} {fuel : Nat} {cs : List Value} {o : Option (DataW H × List MemPlace)} (h : DataW.trod enc Tryz.prog W 0 sp true fuel 24 cs = o) (ho : o.isSome = true) :
  ∃ x y a n cap l, cs = [.int .i64 x, .int .i64 y, .slice a n cap] ∧ List.length l = n ∧ n ≤ maxLen ∧ SlotsAt W a l := by
 obtain ⟨y, rfl⟩ := Option.isSome_iff_exists.1 ho
 obtain ⟨xs, k, _, _, hl, hlen, hf⟩ := DataW.trod_struct Tryz.underlying24 h
 rw [cellsLDisk] at hl
 obtain ⟨c0, c1, c2, rfl⟩ := list3 hl
 have hlen' : xs.length = 3 := hlen
 have f0 : DataW.trod enc Tryz.prog W 0 sp true k 3 (List.take (Tryz.prog.cellsOf 3) (List.drop 0 [c0, c1, c2])) = xs[0]? := hf 0 _ rfl
 have f1 : DataW.trod enc Tryz.prog W 0 sp true k 3 (List.take (Tryz.prog.cellsOf 3) (List.drop 1 [c0, c1, c2])) = xs[1]? := hf 1 _ rfl
 have f2 : DataW.trod enc Tryz.prog W 0 sp true k 22 (List.take (Tryz.prog.cellsOf 22) (List.drop 2 [c0, c1, c2])) = xs[2]? := hf 2 _ rfl
 simp only [cellsInt, cellsLSlots, List.drop_succ_cons, List.drop_zero, List.take_succ_cons, List.take_zero] at f0 f1 f2
 obtain ⟨z0, rfl, _⟩ := int_of f0 (some_of hlen' 0 (by omega))
 obtain ⟨z1, rfl, _⟩ := int_of f1 (some_of hlen' 1 (by omega))
 obtain ⟨a, n, cap, l, rfl, hn, hm, hs⟩ := slots_of f2 (some_of hlen' 2 (by omega))
 exact ⟨z0, z1, a, n, cap, l, rfl, hn, hm, hs⟩
theorem list18 {α : Type} {l : List α} (h : l.length = 18) : ∃ c0 c1 c2 c3 c4 c5 c6 c7 c8 c9 c10 c11 c12 c13 c14 c15 c16 c17, l = [c0, c1, c2, c3, c4, c5, c6, c7, c8, c9, c10, c11, c12, c13, c14, c15, c16, c17] := by
 match l, h with
 | [c0, c1, c2, c3, c4, c5, c6, c7, c8, c9, c10, c11, c12, c13, c14, c15, c16, c17], _ => exact ⟨c0, c1, c2, c3, c4, c5, c6, c7, c8, c9, c10, c11, c12, c13, c14, c15, c16, c17, rfl⟩
theorem rec_open {H : Type} {enc : TypeId × Value → H} {W : World} {base : Nat} {v : Value} {d : DataW H} {p : List MemPlace}
  (hv : Value.okWide Tryz.prog W .any base 30 v) (h : DataW.Trod enc Tryz.prog W 0 (fun _ => true) true 30 v d p) :
  ∃ r p, v = .agg (rcV r p) ∧ RcAt W r p := by
 obtain ⟨cs, rfl, _⟩ := okWide_struct Tryz.underlying30 hv
 obtain ⟨fuel, hf0⟩ := h
 obtain ⟨xs, k, _, _, hl, hlen, hf⟩ := DataW.trod_struct Tryz.underlying30 hf0
 rw [cellsLRec] at hl
 have hl' : cs.toList.length = 18 := by simpa [Value.cells] using hl
 obtain ⟨c0, c1, c2, c3, c4, c5, c6, c7, c8, c9, c10, c11, c12, c13, c14, c15, c16, c17, hcs⟩ := list18 hl'
 have hvc : (Value.agg cs).cells.toList = [c0, c1, c2, c3, c4, c5, c6, c7, c8, c9, c10, c11, c12, c13, c14, c15, c16, c17] := by simpa [Value.cells] using hcs
 have hlen' : xs.length = 14 := hlen
 have f0 : DataW.trod enc Tryz.prog W 0 (fun _ => true) true k 3 (List.take (Tryz.prog.cellsOf 3) (List.drop 0 (Value.agg cs).cells.toList)) = xs[0]? := hf 0 _ rfl
 have f1 : DataW.trod enc Tryz.prog W 0 (fun _ => true) true k 3 (List.take (Tryz.prog.cellsOf 3) (List.drop 1 (Value.agg cs).cells.toList)) = xs[1]? := hf 1 _ rfl
 have f2 : DataW.trod enc Tryz.prog W 0 (fun _ => true) true k 4 (List.take (Tryz.prog.cellsOf 4) (List.drop 2 (Value.agg cs).cells.toList)) = xs[2]? := hf 2 _ rfl
 have f3 : DataW.trod enc Tryz.prog W 0 (fun _ => true) true k 24 (List.take (Tryz.prog.cellsOf 24) (List.drop 3 (Value.agg cs).cells.toList)) = xs[3]? := hf 3 _ rfl
 have f4 : DataW.trod enc Tryz.prog W 0 (fun _ => true) true k 24 (List.take (Tryz.prog.cellsOf 24) (List.drop 6 (Value.agg cs).cells.toList)) = xs[4]? := hf 4 _ rfl
 have f5 : DataW.trod enc Tryz.prog W 0 (fun _ => true) true k 25 (List.take (Tryz.prog.cellsOf 25) (List.drop 9 (Value.agg cs).cells.toList)) = xs[5]? := hf 5 _ rfl
 have f6 : DataW.trod enc Tryz.prog W 0 (fun _ => true) true k 26 (List.take (Tryz.prog.cellsOf 26) (List.drop 10 (Value.agg cs).cells.toList)) = xs[6]? := hf 6 _ rfl
 have f7 : DataW.trod enc Tryz.prog W 0 (fun _ => true) true k 4 (List.take (Tryz.prog.cellsOf 4) (List.drop 11 (Value.agg cs).cells.toList)) = xs[7]? := hf 7 _ rfl
 have f8 : DataW.trod enc Tryz.prog W 0 (fun _ => true) true k 4 (List.take (Tryz.prog.cellsOf 4) (List.drop 12 (Value.agg cs).cells.toList)) = xs[8]? := hf 8 _ rfl
 have f9 : DataW.trod enc Tryz.prog W 0 (fun _ => true) true k 3 (List.take (Tryz.prog.cellsOf 3) (List.drop 13 (Value.agg cs).cells.toList)) = xs[9]? := hf 9 _ rfl
 have f10 : DataW.trod enc Tryz.prog W 0 (fun _ => true) true k 27 (List.take (Tryz.prog.cellsOf 27) (List.drop 14 (Value.agg cs).cells.toList)) = xs[10]? := hf 10 _ rfl
 have f11 : DataW.trod enc Tryz.prog W 0 (fun _ => true) true k 22 (List.take (Tryz.prog.cellsOf 22) (List.drop 15 (Value.agg cs).cells.toList)) = xs[11]? := hf 11 _ rfl
 have f12 : DataW.trod enc Tryz.prog W 0 (fun _ => true) true k 28 (List.take (Tryz.prog.cellsOf 28) (List.drop 16 (Value.agg cs).cells.toList)) = xs[12]? := hf 12 _ rfl
 have f13 : DataW.trod enc Tryz.prog W 0 (fun _ => true) true k 3 (List.take (Tryz.prog.cellsOf 3) (List.drop 17 (Value.agg cs).cells.toList)) = xs[13]? := hf 13 _ rfl
 rw [hvc] at f0 f1 f2 f3 f4 f5 f6 f7 f8 f9 f10 f11 f12 f13
 simp only [cellsInt, cellsBool, cellsLDisk, cellsLMsgs, cellsStrs, cellsInts, cellsLSlots, cellsLAcks, List.drop_succ_cons, List.drop_zero, List.take_succ_cons, List.take_zero] at f0 f1 f2 f3 f4 f5 f6 f7 f8 f9 f10 f11 f12 f13
 obtain ⟨num, rfl, _⟩ := int_of f0 (some_of hlen' 0 (by omega))
 obtain ⟨of_, rfl, _⟩ := int_of f1 (some_of hlen' 1 (by omega))
 obtain ⟨up, rfl⟩ := bool_of f2 (some_of hlen' 2 (by omega))
 obtain ⟨sp, sk, aS, nS, cS, ss, eS, rfl, mS, hS⟩ := disk_cells f3 (some_of hlen' 3 (by omega))
 obtain ⟨dp, dk, aD, nD, cD, ds, eD, rfl, mD, hD⟩ := disk_cells f4 (some_of hlen' 4 (by omega))
 obtain ⟨aH, nH, cH, held, rfl, rfl, mH, hH⟩ := msgs_ofT f5 (some_of hlen' 5 (by omega))
 obtain ⟨aW, nW, cW, wish, rfl, rfl, mW, hW⟩ := strs_ofT f6 (some_of hlen' 6 (by omega))
 obtain ⟨lead, rfl⟩ := bool_of f7 (some_of hlen' 7 (by omega))
 obtain ⟨tr, rfl⟩ := bool_of f8 (some_of hlen' 8 (by omega))
 obtain ⟨ball, rfl, _⟩ := int_of f9 (some_of hlen' 9 (by omega))
 obtain ⟨aY, nY, cY, yes, rfl, rfl, mY, hY⟩ := ints_ofT f10 (some_of hlen' 10 (by omega))
 obtain ⟨aB, nB, cB, best, rfl, rfl, mB, hB⟩ := slots_of f11 (some_of hlen' 11 (by omega))
 obtain ⟨aA, nA, cA, acks, rfl, rfl, mA, hA⟩ := acks_ofT f12 (some_of hlen' 12 (by omega))
 obtain ⟨heard, rfl, _⟩ := int_of f13 (some_of hlen' 13 (by omega))
 simp only [List.cons.injEq, and_true] at eS eD
 obtain ⟨rfl, rfl, rfl⟩ := eS
 obtain ⟨rfl, rfl, rfl⟩ := eD
 refine ⟨⟨num, of_, up, sp, sk, ss, dp, dk, ds, held, wish, lead, tr, ball, yes, best, acks, heard⟩, ⟨aS, cS, aD, cD, aH, cH, aW, cW, aY, cY, aB, cB, aA, cA⟩, ?_, ⟨hS, mS, hD, mD, hH, mH, hW, mW, hY, mY, hB, mB, hA, mA⟩⟩
 exact congrArg Value.agg (Array.toList_inj.1 hcs)
end Go.Proofs.YtffklmlljekceaaGreat
