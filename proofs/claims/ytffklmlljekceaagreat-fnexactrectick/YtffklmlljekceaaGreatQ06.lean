import Derived.Laws.OwnMore
import Derived.Deep.DeepAppendWide
import Derived.Deep.DeepAppendRoom
import Derived.OwnWalk
import Derived.Laws.CopyRow
import Derived.Test.YtffklmlljekceaaGreatQ04
import Derived.Handy
namespace Go.Proofs.YtffklmlljekceaaGreat
open Go.ChangeShapes Go.WideShapes Go.ChangeAt Go.RowKit
set_option linter.unusedSimpArgs false
set_option linter.unusedVariables false
set_option maxHeartbeats 4000000
theorem hid {p : Prop} (h : p) : Hid p := h
def flat : List Sl → List Value
 | [] => []
 | s :: l => .int .i64 s.1 :: .string s.2 :: flat l
theorem flat_len : ∀ (l : List Sl), (flat l).length = l.length * 2
 | [] => rfl
 | s :: l => by simp [flat, flat_len l]; omega
theorem flat_app : ∀ (a b : List Sl), flat (a ++ b) = flat a ++ flat b
 | [], b => rfl
 | s :: l, b => by simp [flat, flat_app l b]
theorem flat_at : ∀ (l : List Sl) (i : Nat) (s : Sl), l[i]? = some s → (flat l)[i * 2]? = some (.int .i64 s.1) ∧ (flat l)[i * 2 + 1]? = some (.string s.2)
 | [], i, s, h => by simp at h
 | x :: l, 0, s, h => by simp at h; subst h; simp [flat]
 | x :: l, i + 1, s, h => by
  have := flat_at l i s (by simpa using h)
  rw [show (i + 1) * 2 = i * 2 + 1 + 1 by omega]
  simpa [flat] using this
theorem flat_set : ∀ (l : List Sl) (k : Nat) (s : Sl), flat (l.set k s) = ((flat l).set (k * 2) (.int .i64 s.1)).set (k * 2 + 1) (.string s.2)
 | [], k, s => by simp [flat]
 | x :: l, 0, s => by simp [flat]
 | x :: l, k + 1, s => by
  rw [show (k + 1) * 2 = k * 2 + 1 + 1 by omega]
  simp [flat, flat_set l k s]
theorem flat_one : ∀ (l : List Sl) (u : Value), u ∈ flat l → u.oneCell' = true
 | [], u, h => by simp [flat] at h
 | s :: l, u, h => by
  simp only [flat, List.mem_cons] at h
  rcases h with rfl | rfl | h
  ·rfl
  ·rfl
  exact flat_one l u h
theorem flat_take : ∀ (l : List Sl) (k : Nat), flat (l.take k) = (flat l).take (k * 2)
 | [], k => by simp [flat]
 | s :: l, 0 => by simp [flat]
 | s :: l, k + 1 => by
  rw [show (k + 1) * 2 = k * 2 + 1 + 1 by omega]
  simp [flat, flat_take l k]
theorem flat_drop : ∀ (l : List Sl) (k : Nat), flat (l.drop k) = (flat l).drop (k * 2)
 | [], k => by simp [flat]
 | s :: l, 0 => by simp [flat]
 | s :: l, k + 1 => by
  rw [show (k + 1) * 2 = k * 2 + 1 + 1 by omega]
  simp [flat, flat_drop l k]
theorem own_blk {w : World} {g : Nat} {l : List Sl} (h : SlotsOwn w g l) : Blk w g (flat l).toArray 108 := by
 obtain ⟨C, hb, hz, hc⟩ := h
 have e : C = (flat l).toArray := by
  apply Array.ext_getElem?
  intro j
  have et : (flat l).toArray[j]? = (flat l)[j]? := by simp
  rw [et]
  clear et
  by_cases hj : j < l.length * 2
  ·have hi : j / 2 < l.length := by omega
   have hs : l[j / 2]? = some l[j / 2] := List.getElem?_eq_getElem hi
   have hcs := hc (j / 2) _ hi hs
   have hfs := flat_at l (j / 2) _ hs
   by_cases hp : j % 2 = 0
   ·rw [show j = j / 2 * 2 by omega]
    rw [hcs.1, hfs.1]
   rw [show j = j / 2 * 2 + 1 by omega]
   rw [hcs.2, hfs.2]
  rw [Array.getElem?_eq_none (by omega), List.getElem?_eq_none (by rw [flat_len]; omega)]
 rw [← e]; exact hb
theorem blk_own {w : World} {g : Nat} {l : List Sl} (h : Blk w g (flat l).toArray 108) : SlotsOwn w g l := by
 refine ⟨_, h, by simp [flat_len], fun i s hi hs => ?_⟩
 rw [List.getElem?_toArray, List.getElem?_toArray]
 exact flat_at l i s hs
def pickS (a b : List Sl) (i : Nat) : Sl :=
 match a[i]?, b[i]? with
 | some x, some y => if x.1 < y.1 then y else x
 | some x, none => x
 | none, some y => y
 | none, none => (0, ByteArray.empty)
def mergeL (a b : List Sl) : List Sl := (List.range (max a.length b.length)).map (pickS a b)
theorem mergeL_len (a b : List Sl) : (mergeL a b).length = max a.length b.length := by simp [mergeL]
theorem mergeL_at (a b : List Sl) (i : Nat) : (mergeL a b)[i]? = if i < max a.length b.length then some (pickS a b i) else none := by
 unfold mergeL
 split
 ·rename_i h; simp [List.getElem?_map, List.getElem?_range h]
 rename_i h; rw [List.getElem?_eq_none (by simp; omega)]
theorem mergeL_nil (a : List Sl) : mergeL a [] = a := by
 apply List.ext_getElem?
 intro i
 rw [mergeL_at]
 by_cases hi : i < a.length
 ·simp [pickS, hi]
 simp [hi]
theorem mergeL_app {a b : List Sl} {k : Nat} {y : Sl} (hk : a.length ≤ k) (hy : b[k]? = some y) : mergeL a (b.take (k + 1)) = mergeL a (b.take k) ++ [y] := by
 have hb : k < b.length := (List.getElem?_eq_some_iff.1 hy).1
 apply List.ext_getElem?
 intro i
 rw [List.getElem?_append, mergeL_at, mergeL_len]
 simp only [List.length_take]
 have e1 : max a.length (min (k + 1) b.length) = k + 1 := by omega
 have e2 : max a.length (min k b.length) = k := by omega
 rw [e1, e2]
 by_cases h1 : i < k
 ·rw [if_pos (by omega), if_pos h1, mergeL_at]
  simp only [List.length_take]
  rw [e2, if_pos h1]
  simp [pickS, List.getElem?_take, h1, show i < k + 1 by omega]
 rw [if_neg h1]
 by_cases h2 : i = k
 ·subst h2
  simp [pickS, List.getElem?_take, hy, List.getElem?_eq_none hk]
 rw [if_neg (by omega), List.getElem?_eq_none (by simp; omega)]
theorem mergeL_keep {a b : List Sl} {k : Nat} {x y : Sl} (hx : a[k]? = some x) (hy : b[k]? = some y) (h : ¬ x.1 < y.1) : mergeL a (b.take (k + 1)) = mergeL a (b.take k) := by
 have ha : k < a.length := (List.getElem?_eq_some_iff.1 hx).1
 have hb : k < b.length := (List.getElem?_eq_some_iff.1 hy).1
 apply List.ext_getElem?
 intro i
 rw [mergeL_at, mergeL_at]
 simp only [List.length_take]
 have e1 : max a.length (min (k + 1) b.length) = a.length := by omega
 have e2 : max a.length (min k b.length) = a.length := by omega
 rw [e1, e2]
 by_cases h1 : i < a.length
 ·rw [if_pos h1, if_pos h1]
  by_cases h2 : i = k
  ·subst h2
   simp [pickS, List.getElem?_take, hy, hx, h]
  by_cases h3 : i < k
  ·simp [pickS, List.getElem?_take, h3, show i < k + 1 by omega]
  simp [pickS, List.getElem?_take, h3, show ¬ i < k + 1 by omega]
 rw [if_neg h1, if_neg h1]
theorem mergeL_set {a b : List Sl} {k : Nat} {x y : Sl} (hx : a[k]? = some x) (hy : b[k]? = some y) (h : x.1 < y.1) : mergeL a (b.take (k + 1)) = (mergeL a (b.take k)).set k y := by
 have ha : k < a.length := (List.getElem?_eq_some_iff.1 hx).1
 have hb : k < b.length := (List.getElem?_eq_some_iff.1 hy).1
 apply List.ext_getElem?
 intro i
 rw [List.getElem?_set, mergeL_at, mergeL_at, mergeL_len]
 simp only [List.length_take]
 have e1 : max a.length (min (k + 1) b.length) = a.length := by omega
 have e2 : max a.length (min k b.length) = a.length := by omega
 rw [e1, e2]
 by_cases h1 : i < a.length
 ·rw [if_pos h1]
  by_cases h2 : i = k
  ·subst h2
   have ht : (b.take (i + 1))[i]? = some y := by rw [List.getElem?_take_of_lt (by omega)]; exact hy
   rw [if_pos rfl, if_pos h1]
   simp only [pickS, hx, ht, if_pos h]
  rw [if_neg (by omega), if_pos h1]
  by_cases h3 : i < k
  ·simp [pickS, List.getElem?_take, h3, show i < k + 1 by omega]
  simp [pickS, List.getElem?_take, h3, show ¬ i < k + 1 by omega]
 rw [if_neg h1, if_neg (by omega), if_neg h1]
theorem mergeL_old {a b : List Sl} {k : Nat} {x : Sl} (hx : a[k]? = some x) : (mergeL a (b.take k))[k]? = some x := by
 have ha : k < a.length := (List.getElem?_eq_some_iff.1 hx).1
 rw [mergeL_at, if_pos (by omega)]
 simp [pickS, hx, List.getElem?_take]
theorem mergeL_full (a b : List Sl) {k : Nat} (h : b.length ≤ k) : mergeL a (b.take k) = mergeL a b := by rw [List.take_of_length_le h]
theorem mergeL_good {a b : List Sl} (ha : GoodSlots a) (hb : GoodSlots b) : GoodSlots (mergeL a b) := fun i s hs => by
 rw [mergeL_at] at hs
 split at hs
 ·simp only [Option.some.injEq] at hs
  unfold pickS at hs
  cases hx : a[i]? with
  | some x =>
   cases hy : b[i]? with
   | some y =>
    simp only [hx, hy] at hs
    split at hs
    ·subst hs; exact hb i _ hy
    subst hs; exact ha i _ hx
   | none => simp only [hx, hy] at hs; subst hs; exact ha i _ hx
  | none =>
   cases hy : b[i]? with
   | some y => simp only [hx, hy] at hs; subst hs; exact hb i _ hy
   | none =>
    rename_i h
    rw [List.getElem?_eq_none_iff] at hx hy
    omega
 simp at hs
theorem mergeL_pages (a b : List Sl) (s : Nat) : (mergeL a b).take s ++ mergeL ((a.drop s).take 60) ((b.drop s).take 60) = (mergeL a b).take (s + 60) := by
 apply List.ext_getElem?
 intro i
 rw [List.getElem?_append, List.getElem?_take, List.getElem?_take, List.length_take, mergeL_len, mergeL_at]
 by_cases h1 : i < min s (max a.length b.length)
 ·rw [if_pos h1, if_pos (show i < s by omega), if_pos (show i < max a.length b.length by omega), if_pos (show i < s + 60 by omega)]
 rw [if_neg h1, mergeL_at]
 simp only [List.length_take, List.length_drop]
 by_cases hs : s ≤ max a.length b.length
 ·rw [show i - min s (max a.length b.length) = i - s by omega]
  by_cases h2 : i < s + 60
  ·rw [if_pos h2]
   by_cases h3 : i < max a.length b.length
   ·rw [if_pos (by omega), if_pos h3]
    simp [pickS, List.getElem?_take, List.getElem?_drop, show i - s < 60 by omega, show s + (i - s) = i by omega]
   rw [if_neg (by omega), if_neg h3]
  rw [if_neg (by omega), if_neg h2]
 rw [if_neg (by omega)]
 split
 ·rw [if_neg (by omega)]
 rfl
theorem slotInfo : ∃ i, Tryz.prog.info? 108 = some i ∧ i.zero = some (.agg #[.int .i64 0, .string ⟨#[]⟩]) ∧ i.size = 2 ∧ i.bytes = 24 := info_parts (by kernel_rfl)
theorem wpList_append_slots {ops : Array Oper} {rest : List Oper} {dst : Option Tmp} {s x : Operand} {τ : TypeId} {pos : String} {after : Array Edge} {a : Act} {w : World} {Q : Exit → Act → World → Prop}
  (B : Nat) (v : Value) (l1 l2 : List Sl) (n m c : Nat) (ad : Addr) (hs : a.eval s = v) (hx : a.eval x = .slice (some ad) m c) (hown : w.ownsRow B 108 2 v n (flat l1)) (hm : l2.length = m)
  (hnews : ∀ j u, (flat l2)[j]? = some u → w.cell? (ad.add j) = some u) (hN : n + m ≤ 4194304) (hB : B ≤ w.heap.size)
  (h : ∀ v' w', w'.ownsRow B 108 2 v' (n + m) (flat (l1 ++ l2)) → w.grownBy w' v.ownBlock → (v' = .slice none 0 0 ↔ v = .slice none 0 0 ∧ m = 0) → wpList Tryz.prog ops Q rest (a.put dst v') w') :
  wpList Tryz.prog ops Q ({ dst := dst, op := .call { callee := .builtin .append, args := #[s, x], argTypes := #[35, 35] }, type := τ, pos := pos, after := after, guard := none } :: rest) a w := by
 obtain ⟨i, h1, h2, h3, h4⟩ := slotInfo
 refine wpList_append_own_wide w rfl s x 35 rfl B 108 i (.agg #[.int .i64 0, .string ⟨#[]⟩]) 2 24 Tryz.underlying35 h1 h2 h3 h4 rfl (by omega) v n (flat l1) hs hown ad m c (flat l2) hx (by rw [flat_len, hm]) hnews (flat_one l2) (by unfold maxLen; omega) (by omega) hB ?_
 intro v' w' q1 q2 q3
 exact h v' w' (by rw [flat_app]; exact q1) q2 q3
theorem blk_news {w : World} {g : Nat} {cs : List Value} {t : TypeId} (h : Blk w g cs.toArray t) : ∀ j u, cs[j]? = some u → w.cell? ((⟨g, 0, none⟩ : Addr).add j) = some u := fun j u hu => by
 rw [show (⟨g, 0, none⟩ : Addr).add j = ⟨g, j, none⟩ by unfold Addr.add; split <;> simp_all]
 rw [h.cell, List.getElem?_toArray]; exact hu
theorem ext_grown {a b c : World} {row : Option Nat} (h : Below a.heap.size a b) (k : b.grownBy c row) (hr : ∀ j, row = some j → a.heap.size ≤ j) : Below a.heap.size a c :=
 h.trans ⟨k.os, k.tape, k.output, k.size, fun i hi => k.block i (Nat.lt_of_lt_of_le hi h.size) (fun e => by have := hr i e.symm; omega)⟩
theorem own_none (w : World) (e : TypeId) (size : Nat) : (w.alloc (.cells #[] e)).ownsRow w.heap.size e size (.slice (some ⟨w.heap.size, 0, none⟩) 0 0) 0 (flat []) :=
 ⟨by simp [flat], .inr ⟨w.heap.size, 0, #[], rfl, Nat.le_refl _, heap_alloc_new w _, Nat.le_refl _, by unfold maxLen; omega, by simp, by simp [flat]⟩⟩
theorem own_form {w : World} {B n : Nat} {e : TypeId} {v : Value} {xs : List Value} (h : w.ownsRow B e 2 v n xs) (hv : v ≠ .slice none 0 0) : ∃ g cap, v = .slice (some ⟨g, 0, none⟩) n cap ∧ B ≤ g ∧ g < w.heap.size ∧ n ≤ cap := by
 rcases h.2 with ⟨h0, _⟩ | ⟨g, cap, cur, rfl, hb, hg, hn, _⟩
 ·exact absurd h0 hv
 exact ⟨g, cap, rfl, hb, (Array.getElem?_eq_some_iff.1 hg).1, hn⟩
end Go.Proofs.YtffklmlljekceaaGreat
namespace Go.Proofs.YtffklmlljekceaaGreat
open Go.ChangeShapes Go.WideShapes Go.ChangeAt Go.RowKit Go.Deep Go.Joins
set_option linter.unusedSimpArgs false
set_option linter.unusedVariables false
set_option maxHeartbeats 4000000
def quietB (r : Rc) : Bool := !r.lead && !r.tr && decide (r.ball = 0) && decide (r.yes.length = 0) && decide (r.best.length = 0) && decide (r.acks.length = 0)
def downB (r : Rc) : Bool := !r.lead && !r.tr && decide (r.held.length = 0) && decide (r.wish.length = 0) && decide (r.heard = 0)
def leadB (r : Rc) : Bool := inB r.ball 1 r.dp && decide (r.yes.length = 0) && decide (r.best.length = 0)
def tryB (r : Rc) : Bool := inB r.ball 1 r.dp && decide (r.acks.length = 0)
def calmB (r : Rc) : Bool := decide (r.ball = 0) && decide (r.yes.length = 0) && decide (r.best.length = 0) && decide (r.acks.length = 0)
theorem beq0 (x : Int) : (x == 0) = decide (x = 0) := rfl
def roleV (r : Rc) : Value := if r.lead then .iface 140 (.agg #[]) else if r.tr then .iface 141 (.agg #[]) else .iface 142 (.agg #[])
theorem sum3 {a b c : Nat} (ha : a ≤ 1048576) (hb : b ≤ 1048576) (hc : c ≤ 1048576) : (wrap64 (wrap64 ((a : Int) + (b : Int)) + (c : Int)) == 0) = (decide (a = 0) && decide (b = 0) && decide (c = 0)) := by
 have e : wrap64 (wrap64 ((a : Int) + (b : Int)) + (c : Int)) = (a : Int) + b + c := by go_arith
 rw [e]
 by_cases h1 : a = 0 <;> by_cases h2 : b = 0 <;> by_cases h3 : c = 0 <;> simp [h1, h2, h3] <;> omega
theorem l2Quiet_any (r : Rc) (p : RcP) (w : World) (hS : RcSmall r) :
  Calls Tryz.prog 76 #[.agg (rcV r p)] w fun e w' => e = .returned (.bool (quietB r)) ∧ Below w.heap.size w w' := by
 have HS : Hid ((wrap64 (wrap64 ((r.yes.length : Int) + (r.best.length : Int)) + (r.acks.length : Int)) == 0) = (decide (r.yes.length = 0) && decide (r.best.length = 0) && decide (r.acks.length = 0))) := sum3 hS.lY hS.lB hS.lA
 clear hS
 go_enter Tryz.func76, Tryz.ntmps76
 go_wp2_with fail
 all_goals go_ret
 ·exact ⟨by simp [quietB, *], ext_alloc (Below.refl _ _) _⟩
 ·exact ⟨by simp [quietB, *], ext_alloc (Below.refl _ _) _⟩
 ·refine ⟨?_, ext_alloc (Below.refl _ _) _⟩
  rw [HS.out]
  simp [quietB, *]
 exact ⟨by simp [quietB, *], ext_alloc (Below.refl _ _) _⟩
theorem downOk_any (r : Rc) (p : RcP) (w : World) :
  Calls Tryz.prog 94 #[.agg (rcV r p)] w fun e w' => e = .returned (.bool (downB r)) ∧ Below w.heap.size w w' := by
 go_enter Tryz.func94, Tryz.ntmps94
 go_wp2_with fail
 all_goals go_ret
 all_goals exact ⟨by simp [downB, beq0, *], ext_alloc (Below.refl _ _) _⟩
theorem lead_any (r : Rc) (p : RcP) (w : World) :
  Calls Tryz.prog 195 #[.agg #[], .agg (rcV r p)] w fun e w' => e = .returned (.bool (leadB r)) ∧ Below w.heap.size w w' := by
 go_enter Tryz.func195, Tryz.ntmps195
 go_wp2_with (go_at_call 89; refine (within_any _ _ _ _).mono ?_; rintro e w' ⟨rfl, rfl⟩)
 all_goals go_ret
 all_goals exact ⟨by simp [leadB, beq0, *], ext_alloc (ext_alloc (Below.refl _ _) _) _⟩
theorem try_any (r : Rc) (p : RcP) (w : World) :
  Calls Tryz.prog 196 #[.agg #[], .agg (rcV r p)] w fun e w' => e = .returned (.bool (tryB r)) ∧ Below w.heap.size w w' := by
 go_enter Tryz.func196, Tryz.ntmps196
 go_wp2_with (go_at_call 89; refine (within_any _ _ _ _).mono ?_; rintro e w' ⟨rfl, rfl⟩)
 all_goals go_ret
 all_goals exact ⟨by simp [tryB, beq0, *], ext_alloc (ext_alloc (Below.refl _ _) _) _⟩
theorem calm_any (r : Rc) (p : RcP) (w : World) :
  Calls Tryz.prog 197 #[.agg #[], .agg (rcV r p)] w fun e w' => e = .returned (.bool (calmB r)) ∧ Below w.heap.size w w' := by
 go_enter Tryz.func197, Tryz.ntmps197
 go_wp2_with fail
 all_goals go_ret
 all_goals exact ⟨by simp [calmB, beq0, *], ext_alloc (ext_alloc (Below.refl _ _) _) _⟩
theorem roleOf_any (r : Rc) (p : RcP) (w : World) :
  Calls Tryz.prog 93 #[.agg (rcV r p)] w fun e w' => e = .returned (roleV r) ∧ Below w.heap.size w w' := by
 go_enter Tryz.func93, Tryz.ntmps93
 go_wp2_with fail
 all_goals go_ret
 all_goals exact ⟨by simp [roleV, *], ext_alloc (Below.refl _ _) _⟩
def holdB (num of_ : Int) (m : Ms) : Bool := decide (m.1.f = num) && msgOkB m.1 of_ m.2
def heldOkB (num of_ : Int) (l : List Ms) : Bool := decide (l.length ≤ 400) && l.all (holdB num of_)
theorem held_of {num of_ : Int} {l : List Ms} {n : Nat} (hn : l.length = n) (hz : n ≤ 400) (h : ∀ (i : Nat) s, i < n → l[i]? = some s → holdB num of_ s = true) : heldOkB num of_ l = true := by
 unfold heldOkB
 rw [hn, decide_eq_true hz, Bool.true_and, List.all_eq_true]
 intro s hs
 obtain ⟨i, hi, rfl⟩ := List.getElem_of_mem hs
 exact h i _ (by omega) (List.getElem?_eq_getElem hi)
theorem not_held_of {num of_ : Int} {l : List Ms} {k : Nat} {s : Ms} (hs : l[k]? = some s) (h : holdB num of_ s = false) : heldOkB num of_ l = false := by
 unfold heldOkB
 rw [show l.all (holdB num of_) = false from by rw [List.all_eq_false]; exact ⟨s, List.mem_of_getElem? hs, by simp [h]⟩, Bool.and_false]
theorem not_held_len {num of_ : Int} {l : List Ms} {n : Nat} (hn : l.length = n) (hz : ¬ n ≤ 400) : heldOkB num of_ l = false := by
 unfold heldOkB
 rw [hn, decide_eq_false hz, Bool.false_and]
theorem implHeldOk (r : Rc) (p : RcP) (w : World) (h : RcAt w r p) :
  Calls Tryz.prog 87 #[.agg (rcV r p)] w fun e w' => e = .returned (.bool (heldOkB r.num r.of_ r.held)) ∧ Below w.heap.size w w' := by
 obtain ⟨aS, cS, aD, cD, aH, cH, aW, cW, aY, cY, aB, cB, aA, cA⟩ := p
 have hB : Below w.heap.size w (w.alloc (.cells (rcV r ⟨aS, cS, aD, cD, aH, cH, aW, cW, aY, cY, aB, cB, aA, cA⟩) 41)) := ext_alloc (Below.refl _ _) _
 have hM := (h.ext hB).hH
 dsimp only at hM
 have hc := h.lH
 unfold maxLen at hc
 have b0 := Blk.new w (rcV r ⟨aS, cS, aD, cD, aH, cH, aW, cW, aY, cY, aB, cB, aA, cA⟩) 41
 clear h
 by_cases hz : r.held.length ≤ 400
 ·go_enter Tryz.func87, Tryz.ntmps87
  go_wp2
  go_loopw [12] (fun i wr => ∃ (k : Nat), k ≤ r.held.length ∧ i = .int .i64 k ∧ (∀ (j : Nat) s, j < k → r.held[j]? = some s → holdB r.num r.of_ s = true) ∧ Below (w.alloc (.cells (rcV r ⟨aS, cS, aD, cD, aH, cH, aW, cW, aY, cY, aB, cB, aA, cA⟩) 41)).heap.size (w.alloc (.cells (rcV r ⟨aS, cS, aD, cD, aH, cH, aW, cW, aY, cY, aB, cB, aA, cA⟩) 41)) wr) (fun i _ => r.held.length - (intOf i).toNat)
  case atStart => exact ⟨0, Nat.zero_le _, rfl, fun j s hj => absurd hj (by omega), Below.refl _ _⟩
  obtain ⟨k, hk, rfl, hall0, hbel⟩ := hrel
  have hall : Hid (∀ (j : Nat) s, j < k → r.held[j]? = some s → holdB r.num r.of_ s = true) := hall0
  clear hall0
  by_cases hlt : k < r.held.length
  ·obtain ⟨s, hs0⟩ : ∃ s, r.held[k]? = some s := ⟨_, List.getElem?_eq_getElem hlt⟩
   have hs : Hid (r.held[k]? = some s) := hs0
   obtain ⟨b, off, sa, cp, rfl, hb, c0, c1, c2, c3, c4, c5, c6, c7, q1, q2, q3⟩ := (hM.ext hbel) k s hs0
   clear hs0
   obtain ⟨⟨mk, mf, mt, mb, mi, mn, mx⟩, ml⟩ := s
   dsimp only at c0 c1 c2 c3 c4 c5 c6 c7 q1 q2 q3
   have cb := (b0.ext hbel).cell
   have HBel : Hid (Below _ _ wr) := hbel
   have db := fun (o : Obj) => ((b0.ext hbel).alloc o).cell
   have e1 : (0 : Int) ≤ (k : Int) := by omega
   have e2 : (k : Int) < (r.held.length : Int) := by omega
   by_cases hf : mf = r.num
   ·subst hf
    cases g : msgOkB ⟨mk, r.num, mt, mb, mi, mn, mx⟩ r.of_ ml
    ·go_wp2_with (go_at_call 40; refine (implMsgOk ⟨mk, r.num, mt, mb, mi, mn, mx⟩ _ sa ml _ cp _ rfl q2 q1 (by exact q3.ext (ext_alloc (Below.refl _ _) _))).mono ?_; rintro e w' ⟨rfl, hb'⟩)
     go_ret
     exact ⟨by rw [not_held_of hs.out (by simp [holdB, g])]; rfl, ext_trans hB (ext_trans (ext_alloc HBel.out _) hb')⟩
    go_wp2_with (go_at_call 40; refine (implMsgOk ⟨mk, r.num, mt, mb, mi, mn, mx⟩ _ sa ml _ cp _ rfl q2 q1 (by exact q3.ext (ext_alloc (Below.refl _ _) _))).mono ?_; rintro e w' ⟨rfl, hb'⟩)
    go_roundw
    case rel =>
     refine ⟨k + 1, by omega, by go_num, fun j t hj ht => ?_, ext_trans (ext_alloc HBel.out _) hb'⟩
     by_cases he : j = k
     ·subst he; rw [hs.out] at ht; simp only [Option.some.injEq] at ht; rw [← ht]; simp [holdB, g]
     exact hall.out j t (by omega) ht
    case measure => simp [intOf]; omega
   go_wp2
   go_ret
   exact ⟨by rw [not_held_of hs.out (by simp [holdB, hf])]; rfl, ext_trans hB (ext_alloc HBel.out _)⟩
  go_wp2
  go_ret
  exact ⟨by rw [held_of rfl hz (fun i s hi hs => hall.out i s (by omega) hs)]; rfl, ext_trans hB hbel⟩
 have HN : Hid (¬ r.held.length ≤ 400) := hz
 go_enter Tryz.func87, Tryz.ntmps87
 go_wp2
 go_ret
 exact ⟨by rw [not_held_len rfl HN.out]; rfl, hB⟩
end Go.Proofs.YtffklmlljekceaaGreat
