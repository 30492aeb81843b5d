/-
  spec.RecAgree.
-/
import Derived.Test.YtgjommccflfjaaaWAgDef
namespace Go.Proofs.Ytgjommccflfjaaa
open Go.ChangeShapes Go.WideShapes Go.ChangeAt Go.RowKit Go.Deep Go.Joins
set_option linter.unusedVariables false
set_option linter.unusedSimpArgs false

set_option maxHeartbeats 8000000 in
set_option maxRecDepth 20000 in
theorem specAgree (d : Wd) (p : WdP) (w : World) (hS0 : WdSmall d) (h : WdAt w d p) :
    Calls Try.prog 18 #[.agg (wdV d p)] w fun e w' => e = .returned (.bool (agreeB d)) ∧ Below w.heap.size w w' := by
  have hS : Hid (WdSmall d) := hS0
  have l1 := hS0.lR
  clear hS0
  have hB : Below w.heap.size w (w.alloc (.cells (wdV d p) 26)) := ext_alloc (Below.refl _ _) _
  have hR := h.ext hB
  have b0 := Blk.new w (wdV d p) 26
  clear h
  obtain ⟨aR, cR, aF, cF, aX, cX⟩ := p
  go_enter Try.func18, Try.ntmps18
  go_wp2_with fail
  refine (specWorldOk d _ _ hS.out hR).mono ?_
  rintro e w0 ⟨rfl, hb0⟩
  have B0 := ext_trans hB hb0
  have b1 := b0.ext hb0
  have R1 := hR.ext hb0
  clear hB hR b0 hb0
  cases g0 : worldOkB d
  · have ha : Hid (agreeB d = false) := by unfold Hid agreeB; rw [g0]; rfl
    go_wp2_with fail
    go_ret
    exact ⟨by rw [ha.out]; rfl, B0⟩
  have hpos : Hid (PosSafe d.recs) := world_pos g0
  go_wp2_with fail
  go_loopw [3] (fun i wr => ∃ (k : Nat), k ≤ d.recs.length ∧ i = .int .i64 k ∧ (∀ (j : Nat) r, j < k → d.recs[j]? = some r → bookOkB d.fx (bookR r) = true) ∧ Below w0.heap.size w0 wr) (fun i _ => d.recs.length - (intOf i).toNat)
  case atStart => exact ⟨0, Nat.zero_le _, rfl, fun j r hj => absurd hj (by omega), Below.refl _ _⟩
  case round =>
    rename World => wo
    obtain ⟨k, hk, rfl, hall0, hbel⟩ := hrel
    have hall : Hid (∀ (j : Nat) r, j < k → d.recs[j]? = some r → bookOkB d.fx (bookR r) = true) := hall0
    clear hall0
    have cb := (b1.ext hbel).cell
    by_cases hlt : k < d.recs.length
    · obtain ⟨r, hr0⟩ : ∃ s, d.recs[k]? = some s := ⟨_, List.getElem?_eq_getElem hlt⟩
      have hr : Hid (d.recs[k]? = some r) := hr0
      obtain ⟨b, off, q, ha, hb, hcs0, hRs⟩ := (R1.ext hbel).hR k r hr0
      simp only at ha
      subst ha
      have hcs : Hid (wo.rangeAt b (off + k * 18) (rcV r q).toList) := hcs0
      have hSm : Hid (RcSmall r) := hS.out.nR k r hr0
      clear hr0 hcs0
      have e1 : (0 : Int) ≤ (k : Int) := by omega
      have e2 : (k : Int) < (d.recs.length : Int) := by omega
      obtain ⟨L, hL⟩ : ∃ L, L = bookR r := ⟨_, rfl⟩
      have hL6 : L.length ≤ 60 := by rw [hL]; exact bookR_len r
      have hcB : ∀ v, RcAt v r q → Calls Try.prog 46 #[.agg (rcV r q)] v fun e w' => ∃ a c, e = .returned (.slice a L.length c) ∧ StrsAt w' a L ∧ Below v.heap.size v w' := fun v hv => by rw [hL]; exact specBook r q v hSm.out hv
      have hLr : Hid (L = bookR r) := hL
      clear hL
      go_wp2_with (first
        | ((with_reducible refine wpList_load_imid b (off + k * 18) (rcV r q) rfl ?_ ?_ ?_); (· rfl); (· exact hcs.out))
        | (go_at_call 46; refine (hcB _ hRs).mono ?_; rintro e w1 ⟨a4, c4, rfl, hst, hb1⟩))
      have B1 := ext_trans hbel hb1
      clear cb hcB
      go_loopw [5] (fun i wr => ∃ (m : Nat), m ≤ L.length ∧ i = .int .i64 m ∧ (∀ (j : Nat) t, j < m → L[j]? = some t → fixAs d.fx ((j : Int) + 1) t = true) ∧ Below w1.heap.size w1 wr) (fun i _ => L.length - (intOf i).toNat)
      case atStart => exact ⟨0, Nat.zero_le _, rfl, fun j t hj => absurd hj (by omega), Below.refl _ _⟩
      case round =>
        obtain ⟨m, hm, rfl, hal0, hbel2⟩ := hrel
        have hal : Hid (∀ (j : Nat) t, j < m → L[j]? = some t → fixAs d.fx ((j : Int) + 1) t = true) := hal0
        clear hal0
        have B2 := ext_trans B1 hbel2
        have cb := (b1.ext B2).cell
        by_cases hlt2 : m < L.length
        · obtain ⟨t, ht0⟩ : ∃ t, L[m]? = some t := ⟨_, List.getElem?_eq_getElem hlt2⟩
          have ht : Hid (L[m]? = some t) := ht0
          have hst2 := hst.ext hbel2
          obtain ⟨b5, off5, rfl, hb5, f0, f1⟩ := hst2 m t ht0
          clear ht0
          have e3 : (0 : Int) ≤ (m : Int) := by omega
          have e4 : (m : Int) < (L.length : Int) := by omega
          cases hfo : fixO d.fx ((m : Int) + 1)
          · have hcf : ∀ v, WdAt v d ⟨some ⟨b, off, none⟩, cR, aF, cF, aX, cX⟩ → Calls Try.prog 47 #[.agg (wdV d ⟨some ⟨b, off, none⟩, cR, aF, cF, aX, cX⟩), .int .i64 ((m : Int) + 1)] v fun e w' => e = .returned (.tuple #[.string ⟨#[]⟩, .bool false]) ∧ Below v.heap.size v w' := fun v hv => by
              have := specFixed d _ ((m : Int) + 1) v hS.out hv
              rw [fixR_none hfo] at this
              exact this
            have hno : Hid (agreeB d = false) := not_books hr.out (by rw [← hLr.out]; exact not_book ht.out (fixAs_none hfo t))
            clear hfo
            go_wp2_with (go_at_call 47; refine (hcf _ (R1.ext B2)).mono ?_; rintro e w2 ⟨rfl, hb2⟩)
            go_ret
            exact ⟨by rw [hno.out]; rfl, ext_trans B0 (ext_trans B2 hb2)⟩
          · rename_i s
            have hcf : ∀ v, WdAt v d ⟨some ⟨b, off, none⟩, cR, aF, cF, aX, cX⟩ → Calls Try.prog 47 #[.agg (wdV d ⟨some ⟨b, off, none⟩, cR, aF, cF, aX, cX⟩), .int .i64 ((m : Int) + 1)] v fun e w' => e = .returned (.tuple #[.string s.2, .bool true]) ∧ Below v.heap.size v w' := fun v hv => by
              have := specFixed d _ ((m : Int) + 1) v hS.out hv
              rw [fixR_some hfo] at this
              exact this
            have hfa := hid (fixAs_some hfo t)
            clear hfo
            cases heq : (s.2.toList == t.toList)
            · have hno : Hid (agreeB d = false) := not_books hr.out (by rw [← hLr.out]; exact not_book ht.out (by rw [hfa.out, heq]))
              go_wp2_with (go_at_call 47; refine (hcf _ (R1.ext B2)).mono ?_; rintro e w2 ⟨rfl, hb2⟩; have f0' := (hb2.cell (p := ⟨b5, off5 + m, none⟩) hb5).trans f0)
              go_ret
              exact ⟨by rw [hno.out]; rfl, ext_trans B0 (ext_trans B2 hb2)⟩
            · go_wp2_with (go_at_call 47; refine (hcf _ (R1.ext B2)).mono ?_; rintro e w2 ⟨rfl, hb2⟩; have f0' := (hb2.cell (p := ⟨b5, off5 + m, none⟩) hb5).trans f0)
              go_roundw
              case rel =>
                refine ⟨m + 1, by omega, by go_num, fun j u hj hu => ?_, ext_trans hbel2 hb2⟩
                by_cases he : j = m
                · subst he; rw [ht.out] at hu; simp only [Option.some.injEq] at hu; rw [← hu, hfa.out, heq]
                · exact hal.out j u (by omega) hu
              case measure => simp [intOf]; omega
        · go_wp2
          go_roundw
          case rel =>
            refine ⟨k + 1, by omega, by go_num, fun j r' hj hr' => ?_, B2⟩
            by_cases he : j = k
            · subst he
              rw [hr.out] at hr'
              simp only [Option.some.injEq] at hr'
              rw [← hr', ← hLr.out]
              exact book_ok fun j t hjt => hal.out j t (by have := (List.getElem?_eq_some_iff.1 hjt).1; omega) hjt
            · exact hall.out j r' (by omega) hr'
          case measure => simp [intOf]; omega
    · have hbs : Hid (booksB d = true) := allL_of rfl (fun i r hi hr => hall.out i r (by omega) hr)
      clear hall
      go_wp2
      go_loopw [8] (fun i wr => ∃ (m : Nat), m ≤ 60 ∧ i = .int .i64 ((m : Int) + 1) ∧ (∀ j : Nat, j < m → majB d ((j : Int) + 1) = true) ∧ Below w0.heap.size w0 wr) (fun i _ => 61 - (intOf i).toNat)
      case atStart => exact ⟨0, by omega, rfl, fun j hj => absurd hj (by omega), hbel⟩
      case round =>
        clear hbel cb
        obtain ⟨m, hm, rfl, hal0, hbel⟩ := hrel
        have hal : Hid (∀ j : Nat, j < m → majB d ((j : Int) + 1) = true) := hal0
        clear hal0
        have cb := (b1.ext hbel).cell
        by_cases hlt2 : m < 60
        · cases hmo : majorO d.recs ((m : Int) + 1)
          · have hcm : ∀ v, WdAt v d ⟨aR, cR, aF, cF, aX, cX⟩ → Calls Try.prog 44 #[.agg (wdV d ⟨aR, cR, aF, cF, aX, cX⟩), .int .i64 ((m : Int) + 1)] v fun e w' => e = .returned (.tuple #[.string ⟨#[]⟩, .bool false]) ∧ Below v.heap.size v w' := fun v hv => by
              have := specMajor d _ ((m : Int) + 1) v hS.out hpos.out hv
              rw [majR_none hmo] at this
              exact this
            have hcf : ∀ v, WdAt v d ⟨aR, cR, aF, cF, aX, cX⟩ → Calls Try.prog 47 #[.agg (wdV d ⟨aR, cR, aF, cF, aX, cX⟩), .int .i64 ((m : Int) + 1)] v fun e w' => e = .returned (.tuple #[.string (fixR d.fx ((m : Int) + 1)).1, .bool (fixR d.fx ((m : Int) + 1)).2]) ∧ Below v.heap.size v w' := fun v hv => by
              have := specFixed d _ ((m : Int) + 1) v hS.out hv
              exact this
            have hmb : Hid (majB d ((m : Int) + 1) = true) := majB_none hmo
            clear hmo
            go_wp2_with (first
              | (go_at_call 44; refine (hcm _ (R1.ext hbel)).mono ?_; rintro e w2 ⟨rfl, hb2⟩; have cb2 := (b1.ext (ext_trans hbel hb2)).cell)
              | (go_at_call 47; refine (hcf _ (R1.ext (ext_trans hbel hb2))).mono ?_; rintro e w3 ⟨rfl, hb3⟩))
            go_roundw
            case rel =>
              refine ⟨m + 1, by omega, by go_num, fun j hj => ?_, ext_trans hbel (ext_trans hb2 hb3)⟩
              by_cases he : j = m
              · rw [he]; exact hmb.out
              · exact hal.out j (by omega)
            case measure => simp [intOf]; omega
          · rename_i t
            have hcm : ∀ v, WdAt v d ⟨aR, cR, aF, cF, aX, cX⟩ → Calls Try.prog 44 #[.agg (wdV d ⟨aR, cR, aF, cF, aX, cX⟩), .int .i64 ((m : Int) + 1)] v fun e w' => e = .returned (.tuple #[.string t, .bool true]) ∧ Below v.heap.size v w' := fun v hv => by
              have := specMajor d _ ((m : Int) + 1) v hS.out hpos.out hv
              rw [majR_some hmo] at this
              exact this
            have hmt := hid (majB_some hmo)
            clear hmo
            cases hfo : fixO d.fx ((m : Int) + 1)
            · have hcf : ∀ v, WdAt v d ⟨aR, cR, aF, cF, aX, cX⟩ → Calls Try.prog 47 #[.agg (wdV d ⟨aR, cR, aF, cF, aX, cX⟩), .int .i64 ((m : Int) + 1)] v fun e w' => e = .returned (.tuple #[.string ⟨#[]⟩, .bool false]) ∧ Below v.heap.size v w' := fun v hv => by
                have := specFixed d _ ((m : Int) + 1) v hS.out hv
                rw [fixR_none hfo] at this; exact this
              have hno : Hid (agreeB d = false) := not_majors hlt2 (by rw [hmt.out]; exact fixAs_none hfo t)
              clear hfo
              go_wp2_with (first
                | (go_at_call 44; refine (hcm _ (R1.ext hbel)).mono ?_; rintro e w2 ⟨rfl, hb2⟩; have cb2 := (b1.ext (ext_trans hbel hb2)).cell)
                | (go_at_call 47; refine (hcf _ (R1.ext (ext_trans hbel hb2))).mono ?_; rintro e w3 ⟨rfl, hb3⟩))
              go_ret
              exact ⟨by rw [hno.out]; rfl, ext_trans B0 (ext_trans hbel (ext_trans hb2 hb3))⟩
            · rename_i s
              have hcf : ∀ v, WdAt v d ⟨aR, cR, aF, cF, aX, cX⟩ → Calls Try.prog 47 #[.agg (wdV d ⟨aR, cR, aF, cF, aX, cX⟩), .int .i64 ((m : Int) + 1)] v fun e w' => e = .returned (.tuple #[.string s.2, .bool true]) ∧ Below v.heap.size v w' := fun v hv => by
                have := specFixed d _ ((m : Int) + 1) v hS.out hv
                rw [fixR_some hfo] at this; exact this
              have hfa := hid (fixAs_some hfo t)
              clear hfo
              cases heq : (s.2.toList == t.toList)
              · have hno : Hid (agreeB d = false) := not_majors hlt2 (by rw [hmt.out, hfa.out, heq])
                go_wp2_with (first
                  | (go_at_call 44; refine (hcm _ (R1.ext hbel)).mono ?_; rintro e w2 ⟨rfl, hb2⟩; have cb2 := (b1.ext (ext_trans hbel hb2)).cell)
                  | (go_at_call 47; refine (hcf _ (R1.ext (ext_trans hbel hb2))).mono ?_; rintro e w3 ⟨rfl, hb3⟩))
                go_ret
                exact ⟨by rw [hno.out]; rfl, ext_trans B0 (ext_trans hbel (ext_trans hb2 hb3))⟩
              · have hmb : Hid (majB d ((m : Int) + 1) = true) := by unfold Hid; rw [hmt.out, hfa.out, heq]
                go_wp2_with (first
                  | (go_at_call 44; refine (hcm _ (R1.ext hbel)).mono ?_; rintro e w2 ⟨rfl, hb2⟩; have cb2 := (b1.ext (ext_trans hbel hb2)).cell)
                  | (go_at_call 47; refine (hcf _ (R1.ext (ext_trans hbel hb2))).mono ?_; rintro e w3 ⟨rfl, hb3⟩))
                go_roundw
                case rel =>
                  refine ⟨m + 1, by omega, by go_num, fun j hj => ?_, ext_trans hbel (ext_trans hb2 hb3)⟩
                  by_cases he : j = m
                  · rw [he]; exact hmb.out
                  · exact hal.out j (by omega)
                case measure => simp [intOf]; omega
        · have hyes : Hid (agreeB d = true) := by
            unfold Hid agreeB
            rw [g0, hbs.out, majors_ok fun j hj => hal.out j (by omega)]
            rfl
          go_wp2
          go_ret
          exact ⟨by rw [hyes.out]; rfl, ext_trans B0 hbel⟩
end Go.Proofs.Ytgjommccflfjaaa
