/-
  Slots copied by the specification, wherever they lie: spec.l1Slots.
-/
import Derived.Test.YtffklmlljekceaaGreatSpecMerge
import Derived.Laws.AppendOwnNone
namespace Go.Proofs.YtffklmlljekceaaGreat
open Go.ChangeShapes Go.WideShapes Go.ChangeAt Go.RowKit
set_option linter.unusedVariables false
set_option linter.unusedSimpArgs false

theorem SlotsAt.news {w : World} {b off : Nat} {l : List Sl} (h : SlotsAt w (some ⟨b, off, none⟩) l) : ∀ j u, (flat l)[j]? = some u → w.cell? ((⟨b, off, none⟩ : Addr).add j) = some u := fun j u hu => by
  have hj := (List.getElem?_eq_some_iff.1 hu).1
  rw [flat_len] at hj
  have hi : j / 2 < l.length := by omega
  have hs : l[j / 2]? = some l[j / 2] := List.getElem?_eq_getElem hi
  obtain ⟨b', off', e, hb, c0, c1, _⟩ := h _ _ hs
  simp only [Option.some.injEq, Addr.mk.injEq, and_true] at e
  obtain ⟨rfl, rfl⟩ := e
  have hf := flat_at l _ _ hs
  rw [Addr.add_mid]
  by_cases hp : j % 2 = 0
  · have e : j = j / 2 * 2 := by omega
    rw [e] at hu ⊢
    rw [← hu, c0, hf.1]
  · have e : j = j / 2 * 2 + 1 := by omega
    rw [e] at hu ⊢
    rw [← hu, hf.2, ← c1, Nat.add_assoc]

set_option maxHeartbeats 2000000 in
theorem l1Slots_at (a : Option Addr) (l : List Sl) (n cap : Nat) (w : World) (hn : l.length = n) (hc : n ≤ 1048576) (ha : a = none → cap = 0) (hsp : ∀ x, a = some x → x.spot = none) (h : SlotsAt w a l) :
    Calls Tryz.prog 77 #[.slice a n cap] w fun e w' => ∃ g' cap', e = .returned (.slice (some ⟨g', 0, none⟩) n cap') ∧ w.heap.size ≤ g' ∧ w'.ownsRow w.heap.size 108 2 (.slice (some ⟨g', 0, none⟩) n cap') n (flat l) ∧ Below w.heap.size w w' := by
  have HL : Hid (l.length = n) := hn
  have HO := hid (own_none w 108 2)
  clear hn
  cases a with
  | some x =>
    obtain ⟨b, off, sp⟩ := x
    have e9 := hsp _ rfl
    dsimp only at e9
    subst e9
    have HN := hid (show ∀ j u, (flat l)[j]? = some u → (w.alloc (.cells #[] 108)).cell? ((⟨b, off, none⟩ : Addr).add j) = some u from (h.ext (ext_alloc (Below.refl _ _) _)).news)
    clear h
    go_enter Tryz.func77, Tryz.ntmps77
    go_wp2_with ((with_reducible refine wpList_append_slots w.heap.size (.slice (some ⟨w.heap.size, 0, none⟩) 0 0) [] l 0 n cap ⟨b, off, none⟩ ?_ ?_ ?_ ?_ ?_ ?_ ?_ ?_); (· rfl); (· rfl); (· exact HO.out); (· exact HL.out); (· exact HN.out); (· omega); (· simp); intro v' w' q1 q2 q3; have Q1 := hid q1; have Q2 := hid q2; have Q3 := hid q3; clear q1 q2 q3)
    go_ret
    obtain ⟨g', cap', rfl, hb, _⟩ := own_form Q1.out (fun e => by have := (Q3.out.1 e).1; simp at this)
    exact ⟨g', cap', by simp, hb, by simpa using Q1.out, ext_grown (ext_alloc (Below.refl _ _) _) Q2.out (fun j hj => by simp [Value.ownBlock] at hj; omega)⟩
  | none =>
    have hl : l = [] := by
      cases l with
      | nil => rfl
      | cons s t => obtain ⟨b, off, e, _⟩ := h 0 s rfl; simp at e
    subst hl
    have hn0 : n = 0 := HL.out.symm
    subst hn0
    have e9 := ha rfl
    subst e9
    go_enter Tryz.func77, Tryz.ntmps77
    go_wp2_with fail
    go_ret
    exact ⟨w.heap.size, 0, rfl, Nat.le_refl _, HO.out, ext_alloc (Below.refl _ _) _⟩
end Go.Proofs.YtffklmlljekceaaGreat
