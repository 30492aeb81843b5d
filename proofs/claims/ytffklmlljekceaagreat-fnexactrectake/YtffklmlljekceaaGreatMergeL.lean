/-
  Lists of slots as cells; what merging two lists gives, place by place.
-/
import Derived.Test.YtffklmlljekceaaGreatSlotsTo
import Derived.Laws.OwnMore
import Derived.Deep.DeepAppendWide
import Derived.Deep.DeepAppendRoom
import Derived.OwnWalk
import Derived.Laws.CopyRow
namespace Go.Proofs.YtffklmlljekceaaGreat
open Go.ChangeShapes Go.WideShapes Go.ChangeAt Go.RowKit
set_option linter.unusedVariables false
set_option linter.unusedSimpArgs false

theorem hid {p : Prop} (h : p) : Hid p := h
/-- the cells of slots, one behind the other -/
def flat : List Sl → List Value
  | [] => []
  | s :: l => .int .i64 s.1 :: .string s.2 :: flat l
theorem flat_len : ∀ (l : List Sl), (flat l).length = l.length * 2
  | [] => rfl
  | s :: l => by simp [flat, flat_len l]; omega
theorem flat_app : ∀ (a b : List Sl), flat (a ++ b) = flat a ++ flat b
  | [], b => rfl
  | s :: l, b => by simp [flat, flat_app l b]
theorem flat_at : ∀ (l : List Sl) (i : Nat) (s : Sl), l[i]? = some s → (flat l)[i * 2]? = some (.int .i64 s.1) ∧ (flat l)[i * 2 + 1]? = some (.string s.2)
  | [], i, s, h => by simp at h
  | x :: l, 0, s, h => by simp at h; subst h; simp [flat]
  | x :: l, i + 1, s, h => by
    have := flat_at l i s (by simpa using h)
    rw [show (i + 1) * 2 = i * 2 + 1 + 1 by omega]
    simpa [flat] using this
theorem flat_set : ∀ (l : List Sl) (k : Nat) (s : Sl), flat (l.set k s) = ((flat l).set (k * 2) (.int .i64 s.1)).set (k * 2 + 1) (.string s.2)
  | [], k, s => by simp [flat]
  | x :: l, 0, s => by simp [flat]
  | x :: l, k + 1, s => by
    rw [show (k + 1) * 2 = k * 2 + 1 + 1 by omega]
    simp [flat, flat_set l k s]
theorem flat_one : ∀ (l : List Sl) (u : Value), u ∈ flat l → u.oneCell' = true
  | [], u, h => by simp [flat] at h
  | s :: l, u, h => by
    simp only [flat, List.mem_cons] at h
    rcases h with rfl | rfl | h
    · rfl
    · rfl
    · exact flat_one l u h
theorem flat_take : ∀ (l : List Sl) (k : Nat), flat (l.take k) = (flat l).take (k * 2)
  | [], k => by simp [flat]
  | s :: l, 0 => by simp [flat]
  | s :: l, k + 1 => by
    rw [show (k + 1) * 2 = k * 2 + 1 + 1 by omega]
    simp [flat, flat_take l k]
theorem flat_drop : ∀ (l : List Sl) (k : Nat), flat (l.drop k) = (flat l).drop (k * 2)
  | [], k => by simp [flat]
  | s :: l, 0 => by simp [flat]
  | s :: l, k + 1 => by
    rw [show (k + 1) * 2 = k * 2 + 1 + 1 by omega]
    simp [flat, flat_drop l k]

theorem own_blk {w : World} {g : Nat} {l : List Sl} (h : SlotsOwn w g l) : Blk w g (flat l).toArray 108 := by
  obtain ⟨C, hb, hz, hc⟩ := h
  have e : C = (flat l).toArray := by
    apply Array.ext_getElem?
    intro j
    have et : (flat l).toArray[j]? = (flat l)[j]? := by simp
    rw [et]
    clear et
    by_cases hj : j < l.length * 2
    · have hi : j / 2 < l.length := by omega
      have hs : l[j / 2]? = some l[j / 2] := List.getElem?_eq_getElem hi
      have hcs := hc (j / 2) _ hi hs
      have hfs := flat_at l (j / 2) _ hs
      by_cases hp : j % 2 = 0
      · rw [show j = j / 2 * 2 by omega]
        rw [hcs.1, hfs.1]
      · rw [show j = j / 2 * 2 + 1 by omega]
        rw [hcs.2, hfs.2]
    · rw [Array.getElem?_eq_none (by omega), List.getElem?_eq_none (by rw [flat_len]; omega)]
  rw [← e]; exact hb
theorem blk_own {w : World} {g : Nat} {l : List Sl} (h : Blk w g (flat l).toArray 108) : SlotsOwn w g l := by
  refine ⟨_, h, by simp [flat_len], fun i s hi hs => ?_⟩
  rw [List.getElem?_toArray, List.getElem?_toArray]
  exact flat_at l i s hs

/-- what stands at a place of two lists merged -/
def pickS (a b : List Sl) (i : Nat) : Sl :=
  match a[i]?, b[i]? with
  | some x, some y => if x.1 < y.1 then y else x
  | some x, none => x
  | none, some y => y
  | none, none => (0, ByteArray.empty)
def mergeL (a b : List Sl) : List Sl := (List.range (max a.length b.length)).map (pickS a b)
theorem mergeL_len (a b : List Sl) : (mergeL a b).length = max a.length b.length := by simp [mergeL]
theorem mergeL_at (a b : List Sl) (i : Nat) : (mergeL a b)[i]? = if i < max a.length b.length then some (pickS a b i) else none := by
  unfold mergeL
  split
  · rename_i h; simp [List.getElem?_map, List.getElem?_range h]
  · rename_i h; rw [List.getElem?_eq_none (by simp; omega)]
theorem mergeL_nil (a : List Sl) : mergeL a [] = a := by
  apply List.ext_getElem?
  intro i
  rw [mergeL_at]
  by_cases hi : i < a.length
  · simp [pickS, hi]
  · simp [hi]
theorem mergeL_app {a b : List Sl} {k : Nat} {y : Sl} (hk : a.length ≤ k) (hy : b[k]? = some y) : mergeL a (b.take (k + 1)) = mergeL a (b.take k) ++ [y] := by
  have hb : k < b.length := (List.getElem?_eq_some_iff.1 hy).1
  apply List.ext_getElem?
  intro i
  rw [List.getElem?_append, mergeL_at, mergeL_len]
  simp only [List.length_take]
  have e1 : max a.length (min (k + 1) b.length) = k + 1 := by omega
  have e2 : max a.length (min k b.length) = k := by omega
  rw [e1, e2]
  by_cases h1 : i < k
  · rw [if_pos (by omega), if_pos h1, mergeL_at]
    simp only [List.length_take]
    rw [e2, if_pos h1]
    simp [pickS, List.getElem?_take, h1, show i < k + 1 by omega]
  · rw [if_neg h1]
    by_cases h2 : i = k
    · subst h2
      simp [pickS, List.getElem?_take, hy, List.getElem?_eq_none hk]
    · rw [if_neg (by omega), List.getElem?_eq_none (by simp; omega)]
theorem mergeL_keep {a b : List Sl} {k : Nat} {x y : Sl} (hx : a[k]? = some x) (hy : b[k]? = some y) (h : ¬ x.1 < y.1) : mergeL a (b.take (k + 1)) = mergeL a (b.take k) := by
  have ha : k < a.length := (List.getElem?_eq_some_iff.1 hx).1
  have hb : k < b.length := (List.getElem?_eq_some_iff.1 hy).1
  apply List.ext_getElem?
  intro i
  rw [mergeL_at, mergeL_at]
  simp only [List.length_take]
  have e1 : max a.length (min (k + 1) b.length) = a.length := by omega
  have e2 : max a.length (min k b.length) = a.length := by omega
  rw [e1, e2]
  by_cases h1 : i < a.length
  · rw [if_pos h1, if_pos h1]
    by_cases h2 : i = k
    · subst h2
      simp [pickS, List.getElem?_take, hy, hx, h]
    · by_cases h3 : i < k
      · simp [pickS, List.getElem?_take, h3, show i < k + 1 by omega]
      · simp [pickS, List.getElem?_take, h3, show ¬ i < k + 1 by omega]
  · rw [if_neg h1, if_neg h1]
theorem mergeL_set {a b : List Sl} {k : Nat} {x y : Sl} (hx : a[k]? = some x) (hy : b[k]? = some y) (h : x.1 < y.1) : mergeL a (b.take (k + 1)) = (mergeL a (b.take k)).set k y := by
  have ha : k < a.length := (List.getElem?_eq_some_iff.1 hx).1
  have hb : k < b.length := (List.getElem?_eq_some_iff.1 hy).1
  apply List.ext_getElem?
  intro i
  rw [List.getElem?_set, mergeL_at, mergeL_at, mergeL_len]
  simp only [List.length_take]
  have e1 : max a.length (min (k + 1) b.length) = a.length := by omega
  have e2 : max a.length (min k b.length) = a.length := by omega
  rw [e1, e2]
  by_cases h1 : i < a.length
  · rw [if_pos h1]
    by_cases h2 : i = k
    · subst h2
      have ht : (b.take (i + 1))[i]? = some y := by rw [List.getElem?_take_of_lt (by omega)]; exact hy
      rw [if_pos rfl, if_pos h1]
      simp only [pickS, hx, ht, if_pos h]
    · rw [if_neg (by omega), if_pos h1]
      by_cases h3 : i < k
      · simp [pickS, List.getElem?_take, h3, show i < k + 1 by omega]
      · simp [pickS, List.getElem?_take, h3, show ¬ i < k + 1 by omega]
  · rw [if_neg h1, if_neg (by omega), if_neg h1]
theorem mergeL_old {a b : List Sl} {k : Nat} {x : Sl} (hx : a[k]? = some x) : (mergeL a (b.take k))[k]? = some x := by
  have ha : k < a.length := (List.getElem?_eq_some_iff.1 hx).1
  rw [mergeL_at, if_pos (by omega)]
  simp [pickS, hx, List.getElem?_take]
theorem mergeL_full (a b : List Sl) {k : Nat} (h : b.length ≤ k) : mergeL a (b.take k) = mergeL a b := by rw [List.take_of_length_le h]
theorem mergeL_good {a b : List Sl} (ha : GoodSlots a) (hb : GoodSlots b) : GoodSlots (mergeL a b) := fun i s hs => by
  rw [mergeL_at] at hs
  split at hs
  · simp only [Option.some.injEq] at hs
    unfold pickS at hs
    cases hx : a[i]? with
    | some x =>
      cases hy : b[i]? with
      | some y =>
        simp only [hx, hy] at hs
        split at hs
        · subst hs; exact hb i _ hy
        · subst hs; exact ha i _ hx
      | none => simp only [hx, hy] at hs; subst hs; exact ha i _ hx
    | none =>
      cases hy : b[i]? with
      | some y => simp only [hx, hy] at hs; subst hs; exact hb i _ hy
      | none =>
        rename_i h
        rw [List.getElem?_eq_none_iff] at hx hy
        omega
  · simp at hs
/-- page by page -/
theorem mergeL_pages (a b : List Sl) (s : Nat) : (mergeL a b).take s ++ mergeL ((a.drop s).take 60) ((b.drop s).take 60) = (mergeL a b).take (s + 60) := by
  apply List.ext_getElem?
  intro i
  rw [List.getElem?_append, List.getElem?_take, List.getElem?_take, List.length_take, mergeL_len, mergeL_at]
  by_cases h1 : i < min s (max a.length b.length)
  · rw [if_pos h1, if_pos (show i < s by omega), if_pos (show i < max a.length b.length by omega), if_pos (show i < s + 60 by omega)]
  · rw [if_neg h1, mergeL_at]
    simp only [List.length_take, List.length_drop]
    by_cases hs : s ≤ max a.length b.length
    · rw [show i - min s (max a.length b.length) = i - s by omega]
      by_cases h2 : i < s + 60
      · rw [if_pos h2]
        by_cases h3 : i < max a.length b.length
        · rw [if_pos (by omega), if_pos h3]
          simp [pickS, List.getElem?_take, List.getElem?_drop, show i - s < 60 by omega, show s + (i - s) = i by omega]
        · rw [if_neg (by omega), if_neg h3]
      · rw [if_neg (by omega), if_neg h2]
    · rw [if_neg (by omega)]
      split
      · rw [if_neg (by omega)]
      · rfl
end Go.Proofs.YtffklmlljekceaaGreat
