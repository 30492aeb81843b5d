/-
  Agreement: the data alone.
-/
import Derived.Test.YtgjommccflfjaaaWPlace
import Derived.Test.YtgjommccflfjaaaWBook
import Derived.Test.YtgjommccflfjaaaWMajor
namespace Go.Proofs.Ytgjommccflfjaaa
set_option linter.unusedVariables false
set_option linter.unusedSimpArgs false

def bookAtB (fx : List Sl) (L : List ByteArray) (i : Nat) : Bool := match L[i]? with | some t => fixAs fx ((i : Int) + 1) t | none => true
def bookOkB (fx : List Sl) (L : List ByteArray) : Bool := (List.range L.length).all (bookAtB fx L)
def booksB (d : Wd) : Bool := d.recs.all fun r => bookOkB d.fx (bookR r)
def majB (d : Wd) (ix : Int) : Bool := match majorO d.recs ix with | some t => fixAs d.fx ix t | none => true
def majorsB (d : Wd) : Bool := (List.range 60).all fun i => majB d ((i : Int) + 1)
def agreeB (d : Wd) : Bool := worldOkB d && booksB d && majorsB d
theorem book_ok {fx : List Sl} {L : List ByteArray} (h : ∀ (j : Nat) t, L[j]? = some t → fixAs fx ((j : Int) + 1) t = true) : bookOkB fx L = true := by
  unfold bookOkB
  rw [List.all_eq_true]
  intro i hi
  have hi' : i < L.length := by simpa using hi
  unfold bookAtB
  rw [List.getElem?_eq_getElem hi']
  exact h i _ (List.getElem?_eq_getElem hi')
theorem not_book {fx : List Sl} {L : List ByteArray} {j : Nat} {t : ByteArray} (ht : L[j]? = some t) (h : fixAs fx ((j : Int) + 1) t = false) : bookOkB fx L = false := by
  unfold bookOkB
  rw [List.all_eq_false]
  exact ⟨j, by simpa using (List.getElem?_eq_some_iff.1 ht).1, by unfold bookAtB; rw [ht]; simp [h]⟩
theorem not_books {d : Wd} {k : Nat} {r : Rc} (hr : d.recs[k]? = some r) (h : bookOkB d.fx (bookR r) = false) : agreeB d = false := by
  unfold agreeB booksB
  rw [not_all hr h]
  simp
theorem majors_ok {d : Wd} (h : ∀ j : Nat, j < 60 → majB d ((j : Int) + 1) = true) : majorsB d = true := by
  unfold majorsB
  rw [List.all_eq_true]
  intro i hi
  exact h i (by simpa using hi)
theorem not_majors {d : Wd} {j : Nat} (hj : j < 60) (h : majB d ((j : Int) + 1) = false) : agreeB d = false := by
  have : majorsB d = false := by
    unfold majorsB
    rw [List.all_eq_false]
    exact ⟨j, by simpa using hj, by simp [h]⟩
  unfold agreeB
  rw [this, Bool.and_false]
theorem bookR_len (r : Rc) : (bookR r).length ≤ 60 := by
  unfold bookR
  split
  · rename_i h
    have := valid_known h
    simp only [bookL, List.length_map, List.length_take]
    omega
  · simp
theorem fixR_some {l : List Sl} {ix : Int} {s : Sl} (h : fixO l ix = some s) : fixR l ix = (s.2, true) := by unfold fixR; rw [h]
theorem fixR_none {l : List Sl} {ix : Int} (h : fixO l ix = none) : fixR l ix = (⟨#[]⟩, false) := by unfold fixR; rw [h]
theorem fixAs_some {l : List Sl} {ix : Int} {s : Sl} (h : fixO l ix = some s) (t : ByteArray) : fixAs l ix t = (s.2.toList == t.toList) := by unfold fixAs; rw [h]
theorem fixAs_none {l : List Sl} {ix : Int} (h : fixO l ix = none) (t : ByteArray) : fixAs l ix t = false := by unfold fixAs; rw [h]
theorem majB_some {d : Wd} {ix : Int} {t : ByteArray} (h : majorO d.recs ix = some t) : majB d ix = fixAs d.fx ix t := by unfold majB; rw [h]
theorem majB_none {d : Wd} {ix : Int} (h : majorO d.recs ix = none) : majB d ix = true := by unfold majB; rw [h]
theorem world_fixed {d : Wd} (h : worldOkB d = true) : AscF d.fx := by
  unfold worldOkB at h
  simp only [Bool.and_eq_true] at h
  exact asc_of h.2
end Go.Proofs.Ytgjommccflfjaaa
