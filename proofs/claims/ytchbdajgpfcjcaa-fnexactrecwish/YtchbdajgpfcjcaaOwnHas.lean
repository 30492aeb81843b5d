/-
  What toRecorder gives: every list in blocks of its own.
-/
import Derived.Test.YtchbdajgpfcjcaaHasHasRec
namespace Go.Proofs.Ytchbdajgpfcjcaa
open Go.ChangeShapes Go.WideShapes Go.ChangeAt Go.RowKit
set_option linter.unusedVariables false
set_option linter.unusedSimpArgs false

theorem own_row {w : World} {B g k n : Nat} {e : TypeId} {C : Array Value} {xs : List Value} (h : Blk w g C e) (hC : C.toList = xs) (hl : xs.length = n * k) (hB : B ≤ g) (hn : n ≤ maxLen) : w.ownsRow B e k (.slice (some ⟨g, 0, none⟩) n n) n xs :=
  ⟨hl, .inr ⟨g, n, C, rfl, hB, h, Nat.le_refl _, hn, by rw [← hl, ← hC, Array.length_toList], by rw [hC, ← hl, List.take_length]⟩⟩
theorem row_one {w : World} {B g k n t : Nat} {e : TypeId} {col : Nat → Nat} {xs : List Value} (h : w.ownsRow B e k (.slice (some ⟨g, 0, none⟩) n n) n xs) (hc : col g = t) : RowC B w col t e k (some ⟨g, 0, none⟩) n n xs :=
  ⟨h, fun x hx => by simp only [Option.some.injEq] at hx; rw [← hx]; exact hc⟩
theorem slots_row {w : World} {B g t : Nat} {col : Nat → Nat} {l : List Sl} (h : SlotsOwn w g l) (hB : B ≤ g) (hn : l.length ≤ maxLen) (hc : col g = t) : RowC B w col t 74 2 (some ⟨g, 0, none⟩) l.length l.length (flat l) :=
  row_one (own_row (own_blk h) (by simp) (flat_len l) hB hn) hc
theorem ones_list {α : Type} {enc : α → Value} {C : Array Value} {l : List α} (h : OnesTo enc C l l.length) : C.toList = l.map enc := by
  apply List.ext_getElem?
  intro i
  rcases Nat.lt_or_ge i l.length with hi | hi
  · have hs : l[i]? = some l[i] := List.getElem?_eq_getElem hi
    rw [Array.getElem?_toList, h.2 i _ hi hs, List.getElem?_map, hs]; rfl
  · rw [List.getElem?_eq_none (by rw [Array.length_toList, h.1]; exact hi), List.getElem?_eq_none (by rw [List.length_map]; exact hi)]
theorem ints_row {w : World} {B g t : Nat} {col : Nat → Nat} {l : List Int} (h : IntsOwn w g l) (hB : B ≤ g) (hn : l.length ≤ maxLen) (hc : col g = t) : RowC B w col t 3 1 (some ⟨g, 0, none⟩) l.length l.length (flatI l) := by
  obtain ⟨C, h1, h2⟩ := h
  exact row_one (own_row h1 (ones_list h2) (by simp [flatI]) hB hn) hc
theorem strs_row {w : World} {B g t : Nat} {col : Nat → Nat} {l : List ByteArray} (h : StrsOwn w g l) (hB : B ≤ g) (hn : l.length ≤ maxLen) (hc : col g = t) : RowC B w col t 9 1 (some ⟨g, 0, none⟩) l.length l.length (flatT l) := by
  obtain ⟨C, h1, h2⟩ := h
  exact row_one (own_row h1 (ones_list h2) (by simp [flatT]) hB hn) hc
def placeM (G : Nat → Nat) (l : List Ms) : List Mp := l.zipIdx.map fun x => (x.1, some ⟨G x.2, 0, none⟩, x.1.2.length)
def placeA (G : Nat → Nat) (l : List Ak) : List Ap := l.zipIdx.map fun x => (x.1, some ⟨G x.2, 0, none⟩, x.1.2.length)
theorem placeM_at {G : Nat → Nat} {l : List Ms} {i : Nat} {s : Ms} (h : l[i]? = some s) : (placeM G l)[i]? = some (s, some ⟨G i, 0, none⟩, s.2.length) := by simp [placeM, List.getElem?_zipIdx, h]
theorem placeA_at {G : Nat → Nat} {l : List Ak} {i : Nat} {s : Ak} (h : l[i]? = some s) : (placeA G l)[i]? = some (s, some ⟨G i, 0, none⟩, s.2.length) := by simp [placeA, List.getElem?_zipIdx, h]
theorem placeM_map (G : Nat → Nat) (l : List Ms) : (placeM G l).map (·.1) = l := by
  apply List.ext_getElem?
  intro i
  simp [placeM, List.getElem?_zipIdx]
  cases l[i]? <;> rfl
theorem placeA_map (G : Nat → Nat) (l : List Ak) : (placeA G l).map (·.1) = l := by
  apply List.ext_getElem?
  intro i
  simp [placeA, List.getElem?_zipIdx]
  cases l[i]? <;> rfl
theorem placeM_len (G : Nat → Nat) (l : List Ms) : (placeM G l).length = l.length := by simp [placeM]
theorem placeA_len (G : Nat → Nat) (l : List Ak) : (placeA G l).length = l.length := by simp [placeA]
theorem msgs_list {w : World} {g : Nat} {C : Array Value} {G : Nat → Nat} {l : List Ms} (h : MsgsTo w g C G l l.length) : C.toList = flatM (placeM G l) := by
  apply List.ext_getElem?
  intro j
  rcases Nat.lt_or_ge j (l.length * 8) with hj | hj
  · have hi : j / 8 < l.length := by omega
    have hs : l[j / 8]? = some l[j / 8] := List.getElem?_eq_getElem hi
    obtain ⟨c0, c1, c2, c3, c4, c5, c6, c7, _⟩ := h.2 _ _ hi hs
    have e : j = j / 8 * 8 + j % 8 := by omega
    have ht : j % 8 < 8 := Nat.mod_lt _ (by omega)
    rw [Array.getElem?_toList]
    generalize j / 8 = i at *
    generalize j % 8 = t at *
    subst e
    rw [flatM_at _ i t _ (placeM_at hs) ht]
    rcases (by omega : t = 0 ∨ t = 1 ∨ t = 2 ∨ t = 3 ∨ t = 4 ∨ t = 5 ∨ t = 6 ∨ t = 7) with rfl | rfl | rfl | rfl | rfl | rfl | rfl | rfl
    · exact c0
    · exact c1
    · exact c2
    · exact c3
    · exact c4
    · exact c5
    · exact c6
    · exact c7
  · rw [List.getElem?_eq_none (by rw [Array.length_toList, h.1]; exact hj), List.getElem?_eq_none (by rw [flatM_len, placeM_len]; exact hj)]
theorem acks_list {w : World} {g : Nat} {C : Array Value} {G : Nat → Nat} {l : List Ak} (h : AcksTo w g C G l l.length) : C.toList = flatA (placeA G l) := by
  apply List.ext_getElem?
  intro j
  rcases Nat.lt_or_ge j (l.length * 2) with hj | hj
  · have hi : j / 2 < l.length := by omega
    have hs : l[j / 2]? = some l[j / 2] := List.getElem?_eq_getElem hi
    obtain ⟨c0, c1, _⟩ := h.2 _ _ hi hs
    have e : j = j / 2 * 2 + j % 2 := by omega
    have ht : j % 2 < 2 := Nat.mod_lt _ (by omega)
    rw [Array.getElem?_toList]
    generalize j / 2 = i at *
    generalize j % 2 = t at *
    subst e
    rw [flatA_at _ i t _ (placeA_at hs) ht]
    rcases (by omega : t = 0 ∨ t = 1) with rfl | rfl
    · exact c0
    · exact c1
  · rw [List.getElem?_eq_none (by rw [Array.length_toList, h.1]; exact hj), List.getElem?_eq_none (by rw [flatA_len, placeA_len]; exact hj)]
def colO (gS gD gH BH gW gY gB gA b : Nat) : Nat := if b = gS then 0 else if b = gD then 1 else if b = gH then 2 else if b < BH then 7 else if b = gW then 3 else if b = gY then 4 else if b = gB then 5 else if b = gA then 6 else 8
theorem RcOwn.has {B : Nat} {w : World} {r : Rc} {p : RcP} (h : RcOwn w r p) (hg : RcAt w r p) (hB : ∀ x, p.aS = some x → B ≤ x.block) : ∃ X col, RcHas B w r p X col := by
  have good := hg.good
  have mS := hg.lS
  have mD := hg.lD
  have mH := hg.lH
  have mW := hg.lW
  have mY := hg.lY
  have mB := hg.lB
  have mA := hg.lA
  obtain ⟨gS, gD, gH, BH, gW, gY, gB, gA, rfl, ⟨l1, l2, l3, l4, l5, l6, l7⟩, oS, oD, ⟨CH, GH, kH, tH, bH⟩, oW, oY, oB, ⟨CA, GA, kA', tA⟩⟩ := h
  have b0 : B ≤ gS := hB _ rfl
  clear hB hg
  refine ⟨⟨placeM GH r.held, placeA GA r.acks⟩, colO gS gD gH BH gW gY gB gA, ?_⟩
  have inM : ∀ i s, r.held[i]? = some s → gH < GH i ∧ GH i < BH ∧ SlotsOwn w (GH i) s.2 ∧ ∀ j, j < i → GH j < GH i := fun i s hs => by
    have hi := (List.getElem?_eq_some_iff.1 hs).1
    obtain ⟨_, _, _, _, _, _, _, _, q1, q2, q3⟩ := tH.2 i s hi hs
    exact ⟨q2, bH i hi, q1, q3⟩
  have inA : ∀ i s, r.acks[i]? = some s → gA < GA i ∧ IntsOwn w (GA i) s.2 ∧ ∀ j, j < i → GA j < GA i := fun i s hs => by
    have hi := (List.getElem?_eq_some_iff.1 hs).1
    obtain ⟨_, _, q1, q2, q3⟩ := tA.2 i s hi hs
    exact ⟨q2, q1, q3⟩
  refine ⟨slots_row oS b0 mS (by simp [colO]), slots_row oD (by omega) mD ?_, row_one (own_row kH (msgs_list tH) (by rw [flatM_len, placeM_len]) (by omega) mH) ?_, placeM_map _ _, ⟨fun m hm => ?_, ?_⟩, strs_row oW (by omega) mW ?_, ints_row oY (by omega) mY ?_, slots_row oB (by omega) mB ?_, row_one (own_row kA' (acks_list tA) (by rw [flatA_len, placeA_len]) (by omega) mA) ?_, placeA_map _ _, ⟨fun m hm => ?_, ?_⟩, good⟩
  · unfold colO; rw [if_neg (by omega), if_pos rfl]
  · unfold colO; rw [if_neg (by omega), if_neg (by omega), if_pos rfl]
  · obtain ⟨i, hi⟩ := List.mem_iff_getElem?.1 hm
    have hl := (List.getElem?_eq_some_iff.1 hi).1
    rw [placeM_len] at hl
    have hs : r.held[i]? = some r.held[i] := List.getElem?_eq_getElem hl
    rw [placeM_at hs] at hi
    simp only [Option.some.injEq] at hi
    rw [← hi]
    obtain ⟨q1, q2, q3, _⟩ := inM i _ hs
    refine slots_row q3 (by omega) ((good.h i _ hs).2.1) ?_
    unfold colO
    rw [if_neg (by omega), if_neg (by omega), if_neg (by omega), if_pos q2]
  · rw [List.pairwise_iff_getElem]
    intro i j hi hj hij x x' hx hx'
    rw [placeM_len] at hi hj
    have h1 := placeM_at (G := GH) (List.getElem?_eq_getElem hi)
    have h2 := placeM_at (G := GH) (List.getElem?_eq_getElem hj)
    obtain ⟨_, e1⟩ := List.getElem?_eq_some_iff.1 h1
    obtain ⟨_, e2⟩ := List.getElem?_eq_some_iff.1 h2
    rw [e1] at hx
    rw [e2] at hx'
    simp only [Option.some.injEq] at hx hx'
    rw [← hx, ← hx']
    have := (inM j _ (List.getElem?_eq_getElem hj)).2.2.2 i hij
    dsimp only
    omega
  · unfold colO; rw [if_neg (by omega), if_neg (by omega), if_neg (by omega), if_neg (by omega), if_pos rfl]
  · unfold colO; rw [if_neg (by omega), if_neg (by omega), if_neg (by omega), if_neg (by omega), if_neg (by omega), if_pos rfl]
  · unfold colO; rw [if_neg (by omega), if_neg (by omega), if_neg (by omega), if_neg (by omega), if_neg (by omega), if_neg (by omega), if_pos rfl]
  · unfold colO; rw [if_neg (by omega), if_neg (by omega), if_neg (by omega), if_neg (by omega), if_neg (by omega), if_neg (by omega), if_neg (by omega), if_pos rfl]
  · obtain ⟨i, hi⟩ := List.mem_iff_getElem?.1 hm
    have hl := (List.getElem?_eq_some_iff.1 hi).1
    rw [placeA_len] at hl
    have hs : r.acks[i]? = some r.acks[i] := List.getElem?_eq_getElem hl
    rw [placeA_at hs] at hi
    simp only [Option.some.injEq] at hi
    rw [← hi]
    obtain ⟨q1, q3, _⟩ := inA i _ hs
    refine ints_row q3 (by omega) ((good.a i _ hs).2.1) ?_
    unfold colO
    rw [if_neg (by omega), if_neg (by omega), if_neg (by omega), if_neg (by omega), if_neg (by omega), if_neg (by omega), if_neg (by omega), if_neg (by omega)]
  · rw [List.pairwise_iff_getElem]
    intro i j hi hj hij x x' hx hx'
    rw [placeA_len] at hi hj
    have h1 := placeA_at (G := GA) (List.getElem?_eq_getElem hi)
    have h2 := placeA_at (G := GA) (List.getElem?_eq_getElem hj)
    obtain ⟨_, e1⟩ := List.getElem?_eq_some_iff.1 h1
    obtain ⟨_, e2⟩ := List.getElem?_eq_some_iff.1 h2
    rw [e1] at hx
    rw [e2] at hx'
    simp only [Option.some.injEq] at hx hx'
    rw [← hx, ← hx']
    have := (inA j _ (List.getElem?_eq_getElem hj)).2.2 i hij
    dsimp only
    omega
end Go.Proofs.Ytchbdajgpfcjcaa
