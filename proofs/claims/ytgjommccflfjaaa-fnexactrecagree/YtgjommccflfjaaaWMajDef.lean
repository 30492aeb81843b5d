/-
  What most disks have: the data alone.
-/
import Derived.Test.YtgjommccflfjaaaWOkI
namespace Go.Proofs.Ytgjommccflfjaaa
set_option linter.unusedVariables false
set_option linter.unusedSimpArgs false

/-- the slot at a place of the safe disk -/
def slotAt (r : Rc) (ix : Int) : Option Sl := if 1 ≤ ix ∧ ix ≤ (r.ss.length : Int) then r.ss[(ix - 1).toNat]? else none
def hasS (ix : Int) (s : Sl) (r : Rc) : Bool := decide (slotAt r ix = some s)
/-- how many have it -/
def cntL (l : List Rc) (ix : Int) (s : Sl) : Nat := l.countP (hasS ix s)
def isMaj (l : List Rc) (ix : Int) (s : Sl) : Prop := 0 < s.1 ∧ l.length < 2 * cntL l ix s
instance (l : List Rc) (ix : Int) (s : Sl) : Decidable (isMaj l ix s) := by unfold isMaj; exact inferInstance
def majP (l : List Rc) (ix : Int) (r : Rc) : Bool := match slotAt r ix with | some s => decide (isMaj l ix s) | none => false
def majorO (l : List Rc) (ix : Int) : Option ByteArray := (l.find? (majP l ix)).bind fun r => (slotAt r ix).map (·.2)
def majR (l : List Rc) (ix : Int) : ByteArray × Bool := match majorO l ix with | some t => (t, true) | none => (⟨#[]⟩, false)

theorem cnt_two (l : List Rc) (ix : Int) {s t : Sl} (h : s ≠ t) : cntL l ix s + cntL l ix t ≤ l.length := by
  induction l with
  | nil => simp [cntL]
  | cons a l ih =>
    simp only [cntL, List.countP_cons, List.length_cons] at ih ⊢
    have hx : (if hasS ix s a = true then 1 else 0) + (if hasS ix t a = true then 1 else 0) ≤ 1 := by
      by_cases h1 : slotAt a ix = some s
      · simp [hasS, h1, h]
      · have h0 : hasS ix s a = false := by simp [hasS, h1]
        rw [h0]
        simp only [Bool.false_eq_true, if_false]
        split <;> omega
    omega
theorem maj_unique {l : List Rc} {ix : Int} {s t : Sl} (h1 : isMaj l ix s) (h2 : isMaj l ix t) : s = t := Classical.byContradiction fun h => by
  have := cnt_two l ix h
  have := h1.2
  have := h2.2
  omega
theorem maj_some {l : List Rc} {ix : Int} {k : Nat} {r : Rc} {s : Sl} (hr : l[k]? = some r) (hs : slotAt r ix = some s) (hm : isMaj l ix s) : majorO l ix = some s.2 := by
  have hp : majP l ix r = true := by simp [majP, hs, hm]
  unfold majorO
  cases hf : l.find? (majP l ix) with
  | none => exact absurd hp (by simpa using List.find?_eq_none.1 hf r (List.mem_of_getElem? hr))
  | some r' =>
    have hp' := List.find?_some hf
    unfold majP at hp'
    cases hs' : slotAt r' ix with
    | none => rw [hs'] at hp'; simp at hp'
    | some s' =>
      rw [hs'] at hp'
      have := maj_unique hm (of_decide_eq_true hp')
      subst this
      simp [hs']
theorem maj_none {l : List Rc} {ix : Int} (h : ∀ (k : Nat) r s, l[k]? = some r → slotAt r ix = some s → ¬ isMaj l ix s) : majorO l ix = none := by
  unfold majorO
  rw [List.find?_eq_none.2 (fun r hr => ?_)]
  · rfl
  · obtain ⟨k, hk, rfl⟩ := List.getElem_of_mem hr
    unfold majP
    cases hs : slotAt l[k] ix with
    | none => simp
    | some s => simpa using h k _ s (List.getElem?_eq_getElem hk) hs
theorem cnt_succ {l : List Rc} {ix : Int} {s : Sl} {k : Nat} {r : Rc} (hr : l[k]? = some r) : cntL (l.take (k + 1)) ix s = cntL (l.take k) ix s + if slotAt r ix = some s then 1 else 0 := by
  unfold cntL
  rw [List.take_add_one, hr, List.countP_append]
  simp [List.countP_cons, hasS]
theorem cnt_yes {l : List Rc} {ix : Int} {s : Sl} {k : Nat} {r : Rc} (hr : l[k]? = some r) (h : slotAt r ix = some s) : cntL (l.take (k + 1)) ix s = cntL (l.take k) ix s + 1 := by rw [cnt_succ hr, if_pos h]
theorem cnt_no {l : List Rc} {ix : Int} {s : Sl} {k : Nat} {r : Rc} (hr : l[k]? = some r) (h : ¬ slotAt r ix = some s) : cntL (l.take (k + 1)) ix s = cntL (l.take k) ix s := by rw [cnt_succ hr, if_neg h]; rfl
theorem cnt_le (l : List Rc) (ix : Int) (s : Sl) (k : Nat) : cntL (l.take k) ix s ≤ cntL l ix s := (List.take_sublist k l).countP_le
theorem cnt_len (l : List Rc) (ix : Int) (s : Sl) (k : Nat) : cntL (l.take k) ix s ≤ k := Nat.le_trans (List.countP_le_length) (by simp; omega)
theorem cnt_full (l : List Rc) (ix : Int) (s : Sl) : cntL (l.take l.length) ix s = cntL l ix s := by rw [List.take_length]
/-- the last one that has it: all are counted there -/
theorem cnt_last (l : List Rc) (ix : Int) (s : Sl) : ∀ m, m ≤ l.length → 0 < cntL (l.take m) ix s → ∃ (j : Nat) (r : Rc), j < m ∧ l[j]? = some r ∧ slotAt r ix = some s ∧ cntL (l.take (j + 1)) ix s = cntL (l.take m) ix s
  | 0, _, h => by simp [cntL] at h
  | m + 1, hm, h => by
    have hr : l[m]? = some l[m] := List.getElem?_eq_getElem (by omega)
    by_cases hs : slotAt l[m] ix = some s
    · exact ⟨m, l[m], by omega, hr, hs, rfl⟩
    · rw [cnt_no hr hs] at h ⊢
      obtain ⟨j, r, h1, h2, h3, h4⟩ := cnt_last l ix s m (by omega) h
      exact ⟨j, r, by omega, h2, h3, h4⟩
theorem maj_none_pre {l : List Rc} {ix : Int} (h : ∀ (k : Nat) r s, l[k]? = some r → slotAt r ix = some s → ¬ (0 < s.1 ∧ l.length < 2 * cntL (l.take (k + 1)) ix s)) : majorO l ix = none := by
  refine maj_none fun k r s hr hs hm => ?_
  have hfull := cnt_full l ix s
  have h2 := hm.2
  obtain ⟨j, r', hj, hr', hs', he⟩ := cnt_last l ix s l.length (Nat.le_refl _) (by omega)
  exact h j r' s hr' hs' ⟨hm.1, by rw [he, hfull]; exact h2⟩
theorem maj_pre {l : List Rc} {ix : Int} {k : Nat} {r : Rc} {s : Sl} (hr : l[k]? = some r) (hs : slotAt r ix = some s) (h0 : 0 < s.1) (h : l.length < 2 * cntL (l.take (k + 1)) ix s) : majorO l ix = some s.2 :=
  maj_some hr hs ⟨h0, by have := cnt_le l ix s (k + 1); omega⟩
theorem majR_some {l : List Rc} {ix : Int} {t : ByteArray} (h : majorO l ix = some t) : majR l ix = (t, true) := by unfold majR; rw [h]
theorem majR_none {l : List Rc} {ix : Int} (h : majorO l ix = none) : majR l ix = (⟨#[]⟩, false) := by unfold majR; rw [h]
theorem slotAt_in {r : Rc} {ix : Int} {s : Sl} (h1 : 1 ≤ ix) (h2 : ix ≤ (r.ss.length : Int)) (hs : r.ss[(ix - 1).toNat]? = some s) : slotAt r ix = some s := by unfold slotAt; rw [if_pos ⟨h1, h2⟩, hs]
theorem slotAt_out {r : Rc} {ix : Int} (h : ¬ (1 ≤ ix ∧ ix ≤ (r.ss.length : Int))) : slotAt r ix = none := by unfold slotAt; rw [if_neg h]
/-- no ballot is below nought -/
def PosSafe (l : List Rc) : Prop := ∀ (k : Nat) r, l[k]? = some r → ∀ (i : Nat) s, r.ss[i]? = some s → 0 ≤ s.1
end Go.Proofs.Ytgjommccflfjaaa
