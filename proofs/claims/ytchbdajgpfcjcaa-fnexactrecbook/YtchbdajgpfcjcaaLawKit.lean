/-
  For the laws' walks: how far the marks count; what marks leave as it was.
-/
import Derived.Test.YtchbdajgpfcjcaaRecLay
import Derived.Test.YtchbdajgpfcjcaaLawLoad
namespace Go.Proofs.Ytchbdajgpfcjcaa
open Go.ChangeShapes Go.WideShapes Go.ChangeAt Go.RowKit
set_option linter.unusedVariables false
set_option linter.unusedSimpArgs false

theorem kM_bound {N : Nat → Nat} {k : Nat} (hN : ∀ j, N j ≤ 1048576) : ∀ n, kM N k n ≤ k + n * 2097159
  | 0 => by simp [kM]
  | n + 1 => by
    have h1 := kM_bound (k := k) hN n
    have h2 := hN n
    rw [kM_step]
    omega
theorem kA_bound {N : Nat → Nat} {k : Nat} (hN : ∀ j, N j ≤ 1048576) : ∀ n, kA N k n ≤ k + n * 1048577
  | 0 => by simp [kA]
  | n + 1 => by
    have h1 := kA_bound (k := k) hN n
    have h2 := hN n
    rw [kA_step]
    omega
theorem lenM_small {l : List Ms} (h : MsgsSmall l) : ∀ i, lenM l i ≤ 1048576 := fun i => by
  unfold lenM
  cases h0 : l[i]? with
  | none => simp
  | some s => exact h i s h0
theorem lenA_small {l : List Ak} (h : AcksSmall l) : ∀ i, lenA l i ≤ 1048576 := fun i => by
  unfold lenA
  cases h0 : l[i]? with
  | none => simp
  | some s => exact h i s h0
theorem cnt_le {r : Rc} (h : RcSmall r) : cnt r (lenM r.held) (lenA r.acks) 1 7 ≤ 1152921504606846900 := by
  have h1 := kM_bound (k := 1 + 2 * r.ss.length + 2 * r.ds.length) (lenM_small h.nH) r.held.length
  have h2 := kA_bound (k := kM (lenM r.held) (1 + 2 * r.ss.length + 2 * r.ds.length) r.held.length + r.wish.length + r.yes.length + 2 * r.best.length) (lenA_small h.nA) r.acks.length
  have := h.lS
  have := h.lD
  have := h.lH
  have := h.lW
  have := h.lY
  have := h.lB
  have := h.lA
  simp only [cnt]
  omega
theorem Wrote.below {B : Nat} {a w w' : World} {ws : Ws} (h : Below B a w) (k : Wrote w w' ws) (ha : B ≤ a.heap.size) (hB : ∀ q ∈ ws, B ≤ q.1.block) : Below B a w' :=
  h.trans ⟨k.os, k.tape, k.output, k.size, fun i hi => k.block i (Nat.lt_of_lt_of_le hi (Nat.le_trans ha h.size)) (fun q hq => by have := hB q hq; omega)⟩
theorem OneAt.wrote {α : Type} {enc : α → Value} {good : α → Prop} {w w' : World} {a : Option Addr} {l : List α} {ws : Ws} (h : OneAt enc good w a l) (k : Wrote w w' ws) (hd : ∀ x, a = some x → ∀ q ∈ ws, q.1.block ≠ x.block) : OneAt enc good w' a l := fun i s hs => by
  obtain ⟨b, off, ha, hlt, c0, r⟩ := h i s hs
  refine ⟨b, off, ha, Nat.lt_of_lt_of_le hlt k.size, (k.keep _ hlt fun q hq e => ?_).trans c0, r⟩
  have := hd _ ha q hq
  rw [e] at this
  exact this rfl
/-- what marks wrote is still there -/
theorem marks_ext {w w' : World} {ws : Ws} (h : ∀ q ∈ ws, w.cell? q.1 = some q.2) (hl : ∀ q ∈ ws, q.1.block < w.heap.size) (k : Below w.heap.size w w') : ∀ q ∈ ws, w'.cell? q.1 = some q.2 := fun q hq => (k.cell (p := q.1) (hl q hq)).trans (h q hq)
theorem wsTo_zone {r : Rc} {p : RcP} {AH : Nat → Option Addr} {NH : Nat → Nat} {AA : Nat → Option Addr} {NA : Nat → Nat} {k m : Nat} {q : Addr × Value} (h : q ∈ wsTo r p AH NH AA NA k m) : ∃ i, zone r p AH NH AA NA i q.1 := by
  obtain ⟨i, _, hi⟩ := wsTo_mem r p AH NH AA NA k m q h
  exact ⟨i, wsL_zone r p AH NH AA NA k i q hi⟩
end Go.Proofs.Ytchbdajgpfcjcaa
