/-
  impl.booksAgree.
-/
import Derived.Test.YtgjommccflfjaaaWAgDef
namespace Go.Proofs.Ytgjommccflfjaaa
open Go.ChangeShapes Go.WideShapes Go.ChangeAt Go.RowKit Go.Deep Go.Joins
set_option linter.unusedVariables false
set_option linter.unusedSimpArgs false

theorem not_booksB {d : Wd} {k : Nat} {r : Rc} (hr : d.recs[k]? = some r) (h : bookOkB d.fx (bookR r) = false) : booksB d = false := by
  unfold booksB
  exact not_all hr h

set_option maxHeartbeats 8000000 in
set_option maxRecDepth 20000 in
theorem implBooks (d : Wd) (p : WdP) (w : World) (hS0 : WdSmall d) (hasc0 : AscF d.fx) (h : WdTo w d p) :
    Calls Try.prog 48 #[.agg (wdV d p)] w fun e w' => e = .returned (.bool (booksB d)) ∧ Below w.heap.size w w' := by
  have hS : Hid (WdSmall d) := hS0
  have hasc : Hid (AscF d.fx) := hasc0
  have l1 := hS0.lR
  clear hS0 hasc0
  have hB : Below w.heap.size w (w.alloc (.cells (wdV d p) 26)) := ext_alloc (Below.refl _ _) _
  have hR := h.ext hB
  have b0 := Blk.new w (wdV d p) 26
  clear h
  obtain ⟨aR, cR, aF, cF, aX, cX⟩ := p
  go_enter Try.func48, Try.ntmps48
  go_wp2
  go_loopw [10] (fun i wr => ∃ (k : Nat), k ≤ d.recs.length ∧ i = .int .i64 k ∧ (∀ (j : Nat) r, j < k → d.recs[j]? = some r → bookOkB d.fx (bookR r) = true) ∧ Below (w.alloc (.cells (wdV d ⟨aR, cR, aF, cF, aX, cX⟩) 26)).heap.size (w.alloc (.cells (wdV d ⟨aR, cR, aF, cF, aX, cX⟩) 26)) wr) (fun i _ => d.recs.length - (intOf i).toNat)
  case atStart => exact ⟨0, Nat.zero_le _, rfl, fun j r hj => absurd hj (by omega), Below.refl _ _⟩
  case round =>
    rename World => wo
    obtain ⟨k, hk, rfl, hall0, hbel⟩ := hrel
    have hall : Hid (∀ (j : Nat) r, j < k → d.recs[j]? = some r → bookOkB d.fx (bookR r) = true) := hall0
    clear hall0
    by_cases hlt : k < d.recs.length
    · obtain ⟨r, hr0⟩ : ∃ s, d.recs[k]? = some s := ⟨_, List.getElem?_eq_getElem hlt⟩
      have hr : Hid (d.recs[k]? = some r) := hr0
      obtain ⟨b, off, q, ha, hb, hcs0, hRs, hW0⟩ := (hR.ext hbel).hR k r hr0
      simp only at ha
      subst ha
      have hcs : Hid (wo.rangeAt b (off + k * 18) (rcV r q).toList) := hcs0
      have hW : Hid (r.wish.length ≤ q.cW) := hW0
      clear hr0 hcs0 hW0
      have e1 : (0 : Int) ≤ (k : Int) := by omega
      have e2 : (k : Int) < (d.recs.length : Int) := by omega
      obtain ⟨L, hL⟩ : ∃ L, L = bookR r := ⟨_, rfl⟩
      have hL6 : L.length ≤ 60 := by rw [hL]; exact bookR_len r
      have hcB : ∀ v, RcAt v r q → Calls Try.prog 79 #[.agg (rcV r q)] v fun e w' => ∃ a c, e = .returned (.slice a L.length c) ∧ StrsAt w' a L ∧ Below v.heap.size v w' := fun v hv => by rw [hL]; exact implBook r q v hW hv
      have hLr : Hid (L = bookR r) := hL
      clear hL
      have q5 := Blk.new wo (rcV r q) 51
      go_wp2_with (first
        | ((with_reducible refine wpList_load_imid b (off + k * 18) (rcV r q) rfl ?_ ?_ ?_); (· rfl); (· exact hcs.out))
        | ((with_reducible refine wpList_store_rec (rcV r q) rfl ?_ ?_ ?_ ?_ ?_); (· rfl); (· rfl); (· rfl); (· simp [Value.oneCell']))
        | ((with_reducible refine wpList_load_rec wo.heap.size (rcV r q) rfl ?_ ?_ ?_); (· rfl); (· exact q5))
        | (go_at_call 79; refine (hcB _ (hRs.ext (ext_alloc (Below.refl _ _) _))).mono ?_; rintro e w1 ⟨a4, c4, rfl, hst, hb1⟩))
      have B1 := ext_trans (ext_alloc hbel _) hb1
      clear hcB q5
      go_loopw [17] (fun i wr => ∃ (m : Nat), m ≤ L.length ∧ i = .int .i64 m ∧ (∀ (j : Nat) t, j < m → L[j]? = some t → fixAs d.fx ((j : Int) + 1) t = true) ∧ Below w1.heap.size w1 wr) (fun i _ => L.length - (intOf i).toNat)
      case atStart => exact ⟨0, Nat.zero_le _, rfl, fun j t hj => absurd hj (by omega), Below.refl _ _⟩
      case round =>
        obtain ⟨m, hm, rfl, hal0, hbel2⟩ := hrel
        have hal : Hid (∀ (j : Nat) t, j < m → L[j]? = some t → fixAs d.fx ((j : Int) + 1) t = true) := hal0
        clear hal0
        have B2 := ext_trans B1 hbel2
        have cb := (b0.ext B2).cell
        by_cases hlt2 : m < L.length
        · obtain ⟨t, ht0⟩ : ∃ t, L[m]? = some t := ⟨_, List.getElem?_eq_getElem hlt2⟩
          have ht : Hid (L[m]? = some t) := ht0
          have hst2 := hst.ext hbel2
          obtain ⟨b5, off5, rfl, hb5, f0, f1⟩ := hst2 m t ht0
          clear ht0
          have e3 : (0 : Int) ≤ (m : Int) := by omega
          have e4 : (m : Int) < (L.length : Int) := by omega
          have hX := (hR.ext B2).hX
          cases hfa : fixAs d.fx ((m : Int) + 1) t
          · have hno : Hid (booksB d = false) := not_booksB hr.out (by rw [← hLr.out]; exact not_book ht.out hfa)
            go_wp2_with (go_at_call 80; refine (implFixedAs aX d.fx _ cX ((m : Int) + 1) t _ rfl hS.out.lX hasc.out hX).mono ?_; rintro e w2 ⟨rfl, hb2⟩)
            go_ret
            exact ⟨by rw [hno.out]; rfl, ext_trans hB (ext_trans B2 hb2)⟩
          · go_wp2_with (go_at_call 80; refine (implFixedAs aX d.fx _ cX ((m : Int) + 1) t _ rfl hS.out.lX hasc.out hX).mono ?_; rintro e w2 ⟨rfl, hb2⟩)
            go_roundw
            case rel =>
              refine ⟨m + 1, by omega, by go_num, fun j u hj hu => ?_, ext_trans hbel2 hb2⟩
              by_cases he : j = m
              · subst he; rw [ht.out] at hu; simp only [Option.some.injEq] at hu; rw [← hu, hfa]
              · exact hal.out j u (by omega) hu
            case measure => simp [intOf]; omega
        · go_wp2
          go_roundw
          case rel =>
            refine ⟨k + 1, by omega, by go_num, fun j r' hj hr' => ?_, B2⟩
            by_cases he : j = k
            · subst he
              rw [hr.out] at hr'
              simp only [Option.some.injEq] at hr'
              rw [← hr', ← hLr.out]
              exact book_ok fun j t hjt => hal.out j t (by have := (List.getElem?_eq_some_iff.1 hjt).1; omega) hjt
            · exact hall.out j r' (by omega) hr'
          case measure => simp [intOf]; omega
    · have hbs : Hid (booksB d = true) := allL_of rfl (fun i r hi hr => hall.out i r (by omega) hr)
      clear hall
      go_wp2
      go_ret
      exact ⟨by rw [hbs.out]; rfl, ext_trans hB hbel⟩
end Go.Proofs.Ytgjommccflfjaaa
