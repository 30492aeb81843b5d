/-
  A world is ok: spec.RecWorldOk.
-/
import Derived.Test.YtgjommccflfjaaaWOkI
import Derived.Test.YtgjommccflfjaaaSpecValid
namespace Go.Proofs.Ytgjommccflfjaaa
open Go.ChangeShapes Go.WideShapes Go.ChangeAt Go.RowKit Go.Deep Go.Joins
set_option linter.unusedVariables false
set_option linter.unusedSimpArgs false

theorem not_fix_key {l : List Sl} {k : Nat} {s : Sl} (hs : l[k]? = some s) (h : numAtB 60 (keysF l) k = false) : fixOkB l = false := by
  unfold fixOkB
  rw [not_nums_of (by rw [keysF_len]; exact (List.getElem?_eq_some_iff.1 hs).1) h, Bool.false_and]
theorem not_fix_text {l : List Sl} {k : Nat} {s : Sl} (hs : l[k]? = some s) (h : ¬ s.2.size ≤ 100) : fixOkB l = false := by
  unfold fixOkB
  rw [not_all hs (decide_eq_false h), Bool.and_false]
theorem fix_of {l : List Sl} {n : Nat} (hn : l.length = n) (h1 : ∀ i, i < n → numAtB 60 (keysF l) i = true) (h2 : ∀ (i : Nat) s, i < n → l[i]? = some s → decide (s.2.size ≤ 100) = true) : fixOkB l = true := by
  unfold fixOkB
  rw [nums_of (by rw [keysF_len, hn]) h1, allL_of hn h2, Bool.and_true]

set_option maxHeartbeats 8000000 in
theorem specWorldOk (d : Wd) (p : WdP) (w : World) (hS0 : WdSmall d) (h : WdAt w d p) :
    Calls Try.prog 13 #[.agg (wdV d p)] w fun e w' => e = .returned (.bool (worldOkB d)) ∧ Below w.heap.size w w' := by
  have hS : Hid (WdSmall d) := hS0
  have l1 := hS0.lR
  have l2 := hS0.lF
  have l3 := hS0.lX
  clear hS0
  have hB : Below w.heap.size w (w.alloc (.cells (wdV d p) 26)) := ext_alloc (Below.refl _ _) _
  have hR := h.ext hB
  have b0 := Blk.new w (wdV d p) 26
  clear h
  cases hz : inB (d.recs.length : Int) 1 5
  · go_enter Try.func13, Try.ntmps13
    go_wp2_with (go_at_call 20; refine (l1In_any _ _ _ _).mono ?_; rintro e w' ⟨rfl, hw'⟩; subst w')
    go_ret
    exact ⟨by unfold worldOkB; rw [hz]; rfl, hB⟩
  by_cases hf : d.fl.length ≤ 600
  · go_enter Try.func13, Try.ntmps13
    go_wp2_with (go_at_call 20; refine (l1In_any _ _ _ _).mono ?_; rintro e w' ⟨rfl, hw'⟩; subst w')
    go_loopw [4] (fun i wr => ∃ (k : Nat), k ≤ d.recs.length ∧ i = .int .i64 k ∧ (∀ (j : Nat) s, j < k → d.recs[j]? = some s → recB d.recs.length j s = true) ∧ Below (w.alloc (.cells (wdV d p) 26)).heap.size (w.alloc (.cells (wdV d p) 26)) wr) (fun i _ => d.recs.length - (intOf i).toNat)
    case atStart => exact ⟨0, Nat.zero_le _, rfl, fun j s hj => absurd hj (by omega), Below.refl _ _⟩
    case round =>
      obtain ⟨k, hk, rfl, hall0, hbel⟩ := hrel
      have hall : Hid (∀ (j : Nat) s, j < k → d.recs[j]? = some s → recB d.recs.length j s = true) := hall0
      clear hall0
      have cb := (b0.ext hbel).cell
      by_cases hlt : k < d.recs.length
      · obtain ⟨s, hs0⟩ : ∃ s, d.recs[k]? = some s := ⟨_, List.getElem?_eq_getElem hlt⟩
        have hs : Hid (d.recs[k]? = some s) := hs0
        obtain ⟨b, off, q, ha, hb, hcs0, hRs⟩ := (hR.ext hbel).hR k s hs0
        obtain ⟨aR, cR, aF, cF, aX, cX⟩ := p
        simp only at ha
        subst ha
        have hcs : Hid (wr.rangeAt b (off + k * 18) (rcV s q).toList) := hcs0
        have hSm : Hid (RcSmall s) := hS.out.nR k s hs0
        clear hs0 hcs0
        have e1 : (0 : Int) ≤ (k : Int) := by omega
        have e2 : (k : Int) < (d.recs.length : Int) := by omega
        cases g3 : validB s
        · go_wp2_with (first
            | ((with_reducible refine wpList_load_imid b (off + k * 18) (rcV s q) rfl ?_ ?_ ?_); (· rfl); (· exact hcs.out))
            | (go_at_call 36; refine (specValid s q _ hSm.out hRs).mono ?_; rintro e w' ⟨rfl, hb'⟩))
          go_ret
          exact ⟨by unfold worldOkB; rw [not_recs rfl hs.out (by unfold recB; rw [g3]; rfl), Bool.and_false]; rfl, ext_trans (ext_trans hB hbel) hb'⟩
        · by_cases g1 : s.num = (k : Int) + 1
          · by_cases g2 : s.of_ = (d.recs.length : Int)
            · go_wp2_with (first
                | ((with_reducible refine wpList_load_imid b (off + k * 18) (rcV s q) rfl ?_ ?_ ?_); (· rfl); (· exact hcs.out))
                | (go_at_call 36; refine (specValid s q _ hSm.out hRs).mono ?_; rintro e w' ⟨rfl, hb'⟩; have cb' := (b0.ext (ext_trans hbel hb')).cell; have c0 : w'.cell? ⟨b, off + k * 18, none⟩ = some (.int .i64 s.num) := (range_ext hcs.out hb' hb) 0 _ rfl; have c1 : w'.cell? ⟨b, off + k * 18 + 1, none⟩ = some (.int .i64 s.of_) := (range_ext hcs.out hb' hb) 1 _ rfl))
              go_roundw
              case rel =>
                refine ⟨k + 1, by omega, by go_num, fun j t hj ht => ?_, ext_trans hbel hb'⟩
                by_cases he : j = k
                · subst he; rw [hs.out] at ht; simp only [Option.some.injEq] at ht; rw [← ht]; unfold recB; rw [g3, decide_eq_true g1, decide_eq_true g2]; rfl
                · exact hall.out j t (by omega) ht
              case measure => simp [intOf]; omega
            · go_wp2_with (first
                | ((with_reducible refine wpList_load_imid b (off + k * 18) (rcV s q) rfl ?_ ?_ ?_); (· rfl); (· exact hcs.out))
                | (go_at_call 36; refine (specValid s q _ hSm.out hRs).mono ?_; rintro e w' ⟨rfl, hb'⟩; have cb' := (b0.ext (ext_trans hbel hb')).cell; have c0 : w'.cell? ⟨b, off + k * 18, none⟩ = some (.int .i64 s.num) := (range_ext hcs.out hb' hb) 0 _ rfl; have c1 : w'.cell? ⟨b, off + k * 18 + 1, none⟩ = some (.int .i64 s.of_) := (range_ext hcs.out hb' hb) 1 _ rfl))
              go_ret
              exact ⟨by unfold worldOkB; rw [not_recs rfl hs.out (by unfold recB; rw [decide_eq_false g2, Bool.and_false]), Bool.and_false]; rfl, ext_trans (ext_trans hB hbel) hb'⟩
          · go_wp2_with (first
              | ((with_reducible refine wpList_load_imid b (off + k * 18) (rcV s q) rfl ?_ ?_ ?_); (· rfl); (· exact hcs.out))
              | (go_at_call 36; refine (specValid s q _ hSm.out hRs).mono ?_; rintro e w' ⟨rfl, hb'⟩; have cb' := (b0.ext (ext_trans hbel hb')).cell; have c0 : w'.cell? ⟨b, off + k * 18, none⟩ = some (.int .i64 s.num) := (range_ext hcs.out hb' hb) 0 _ rfl; have c1 : w'.cell? ⟨b, off + k * 18 + 1, none⟩ = some (.int .i64 s.of_) := (range_ext hcs.out hb' hb) 1 _ rfl))
            go_ret
            exact ⟨by unfold worldOkB; rw [not_recs rfl hs.out (by unfold recB; rw [decide_eq_false g1, Bool.and_false, Bool.false_and]), Bool.and_false]; rfl, ext_trans (ext_trans hB hbel) hb'⟩
      · have hrs : Hid (recsB d.recs = true) := recs_of rfl (fun i s hi hs => hall.out i s (by omega) hs)
        clear hall
        go_wp2
        go_loopw [5] (fun i wr => ∃ (k : Nat), k ≤ d.fl.length ∧ i = .int .i64 k ∧ (∀ (j : Nat) s, j < k → d.fl[j]? = some s → msgOkB s.1 d.recs.length s.2 = true) ∧ Below (w.alloc (.cells (wdV d p) 26)).heap.size (w.alloc (.cells (wdV d p) 26)) wr) (fun i _ => d.fl.length - (intOf i).toNat)
        case atStart => exact ⟨0, Nat.zero_le _, rfl, fun j s hj => absurd hj (by omega), hbel⟩
        case round =>
          clear hbel cb
          obtain ⟨m, hm, rfl, hall0, hbel⟩ := hrel
          have hall : Hid (∀ (j : Nat) s, j < m → d.fl[j]? = some s → msgOkB s.1 d.recs.length s.2 = true) := hall0
          clear hall0
          have cb := (b0.ext hbel).cell
          by_cases hlt2 : m < d.fl.length
          · obtain ⟨s, hs0⟩ : ∃ s, d.fl[m]? = some s := ⟨_, List.getElem?_eq_getElem hlt2⟩
            have hs : Hid (d.fl[m]? = some s) := hs0
            obtain ⟨b, off, sa, cp, ha, hb, c0, c1, c2, c3, c4, c5, c6, c7, q1, q2, q3⟩ := (hR.ext hbel).hF m s hs0
            obtain ⟨aR, cR, aF, cF, aX, cX⟩ := p
            simp only at ha
            subst ha
            clear hs0
            have e1 : (0 : Int) ≤ (m : Int) := by omega
            have e2 : (m : Int) < (d.fl.length : Int) := by omega
            cases g2 : msgOkB s.1 d.recs.length s.2
            · go_wp2_with (go_at_call 37; refine (specMsgOk s.1 _ sa s.2 s.2.length cp _ rfl q2 q1 q3).mono ?_; rintro e w' ⟨rfl, hb'⟩)
              go_ret
              exact ⟨by unfold worldOkB flB; rw [not_all hs.out g2]; simp, ext_trans (ext_trans hB hbel) hb'⟩
            · go_wp2_with (go_at_call 37; refine (specMsgOk s.1 _ sa s.2 s.2.length cp _ rfl q2 q1 q3).mono ?_; rintro e w' ⟨rfl, hb'⟩)
              go_roundw
              case rel =>
                refine ⟨m + 1, by omega, by go_num, fun j t hj ht => ?_, ext_trans hbel hb'⟩
                by_cases he : j = m
                · subst he; rw [hs.out] at ht; simp only [Option.some.injEq] at ht; rw [← ht]; exact g2
                · exact hall.out j t (by omega) ht
              case measure => simp [intOf]; omega
          · have hfs : Hid (flB d.recs.length d.fl = true) := by
              unfold Hid flB
              rw [allL_of rfl (fun i s hi hs => hall.out i s (by omega) hs), decide_eq_true hf]
              rfl
            clear hall
            go_wp2
            go_loopw [6] (fun i wr => ∃ (k : Nat), k ≤ d.fx.length ∧ i = .int .i64 k ∧ (∀ j, j < k → numAtB 60 (keysF d.fx) j = true) ∧ (∀ (j : Nat) s, j < k → d.fx[j]? = some s → decide (s.2.size ≤ 100) = true) ∧ Below (w.alloc (.cells (wdV d p) 26)).heap.size (w.alloc (.cells (wdV d p) 26)) wr) (fun i _ => d.fx.length - (intOf i).toNat)
            case atStart => exact ⟨0, Nat.zero_le _, rfl, fun j hj => absurd hj (by omega), fun j s hj => absurd hj (by omega), hbel⟩
            case round =>
              clear hbel cb
              obtain ⟨v, hv, rfl, hall0, hall1, hbel⟩ := hrel
              have hall : Hid ((∀ j, j < v → numAtB 60 (keysF d.fx) j = true) ∧ (∀ (j : Nat) s, j < v → d.fx[j]? = some s → decide (s.2.size ≤ 100) = true)) := ⟨hall0, hall1⟩
              clear hall0 hall1
              have cb := (b0.ext hbel).cell
              by_cases hlt3 : v < d.fx.length
              · obtain ⟨s, hs0⟩ : ∃ s, d.fx[v]? = some s := ⟨_, List.getElem?_eq_getElem hlt3⟩
                have hs : Hid (d.fx[v]? = some s) := hs0
                have hX := (hR.ext hbel).hX
                obtain ⟨b, off, ha, hb, c0, c1, q1, q2⟩ := hX v s hs0
                obtain ⟨aR, cR, aF, cF, aX, cX⟩ := p
                simp only at ha
                subst ha
                clear hs0
                unfold maxLen at q1
                have e1 : (0 : Int) ≤ (v : Int) := by omega
                have e2 : (v : Int) < (d.fx.length : Int) := by omega
                cases g1 : inB s.1 1 60
                · go_wp2_with fail
                  go_quiet (first | (go_at_call 20; exact Calls.quiet_of_same (l1In_any _ _ _ _)))
                  go_wp2
                  go_ret
                  exact ⟨by unfold worldOkB; rw [not_fix_key hs.out (numAt_in (keysF_at hs.out) g1), Bool.and_false]; rfl, ext_trans hB (below_drewN hbel _)⟩
                · by_cases hx : s.2.size ≤ 100
                  · have hx1 : decide ((100 : Int) < (s.2.size : Int)) = false := decide_eq_false (by omega)
                    by_cases hk0 : 0 < v
                    · obtain ⟨y, hs1⟩ : ∃ s, d.fx[v-1]? = some s := ⟨_, List.getElem?_eq_getElem (by omega)⟩
                      have hp : Hid (d.fx[v-1]? = some y) := hs1
                      obtain ⟨b', off', e, hb', d0, d1, _⟩ := hX (v-1) y hs1
                      simp only [Option.some.injEq, Addr.mk.injEq, and_true] at e
                      obtain ⟨rfl, rfl⟩ := e
                      clear hs1
                      have u1 : (0 : Int) < (v : Int) := by omega
                      have u2 : decide ((0 : Int) < (v : Int)) = true := decide_eq_true u1
                      have u3 : (0 : Int) ≤ (v : Int) - 1 := by omega
                      have u4 : (v : Int) - 1 < (d.fx.length : Int) := by omega
                      have u5 : ((v : Int) - 1).toNat = v - 1 := by omega
                      by_cases hy : y.1 < s.1
                      · have u6 : decide (s.1 ≤ y.1) = false := decide_eq_false (by omega)
                        go_wp2_with fail
                        go_quiet (first | (go_at_call 20; exact Calls.quiet_of_same (l1In_any _ _ _ _)))
                        go_wp2
                        go_roundw
                        case rel =>
                          refine ⟨v + 1, by omega, by go_num, fun j hj => ?_, fun j t hj ht => ?_, below_drewN hbel _⟩
                          · by_cases he : j = v
                            · rw [he]; exact numAt_yes (keysF_at hs.out) (keysF_at hp.out) g1 hy
                            · exact hall.out.1 j (by omega)
                          · by_cases he : j = v
                            · subst he; rw [hs.out] at ht; simp only [Option.some.injEq] at ht; rw [← ht]; exact decide_eq_true hx
                            · exact hall.out.2 j t (by omega) ht
                        case measure => simp [intOf]; omega
                      · have u6 : decide (s.1 ≤ y.1) = true := decide_eq_true (by omega)
                        go_wp2_with fail
                        go_quiet (first | (go_at_call 20; exact Calls.quiet_of_same (l1In_any _ _ _ _)))
                        go_wp2
                        go_ret
                        exact ⟨by unfold worldOkB; rw [not_fix_key hs.out (numAt_no hk0 (keysF_at hs.out) (keysF_at hp.out) (by omega)), Bool.and_false]; rfl, ext_trans hB (below_drewN hbel _)⟩
                    · have u2 : decide ((0 : Int) < (v : Int)) = false := decide_eq_false (by omega)
                      go_wp2_with fail
                      go_quiet (first | (go_at_call 20; exact Calls.quiet_of_same (l1In_any _ _ _ _)))
                      go_wp2
                      go_roundw
                      case rel =>
                        have hk9 : v = 0 := by omega
                        have h9 := hs.out
                        rw [hk9] at h9
                        refine ⟨v + 1, by omega, by go_num, fun j hj => ?_, fun j t hj ht => ?_, below_drewN hbel _⟩
                        · have hj9 : j = 0 := by omega
                          rw [hj9]; exact numAt_first (keysF_at h9) g1
                        · have hj9 : j = 0 := by omega
                          rw [hj9, h9] at ht; simp only [Option.some.injEq] at ht; rw [← ht]; exact decide_eq_true hx
                      case measure => simp [intOf]; omega
                  · have hx1 : decide ((100 : Int) < (s.2.size : Int)) = true := decide_eq_true (by omega)
                    go_wp2_with fail
                    go_quiet (first | (go_at_call 20; exact Calls.quiet_of_same (l1In_any _ _ _ _)))
                    go_wp2
                    go_ret
                    exact ⟨by unfold worldOkB; rw [not_fix_text hs.out hx, Bool.and_false]; rfl, ext_trans hB (below_drewN hbel _)⟩
              · go_wp2
                go_ret
                exact ⟨by unfold worldOkB; rw [hz, hrs.out, hfs.out, fix_of rfl (fun i hi => hall.out.1 i (by omega)) (fun i s hi hs => hall.out.2 i s (by omega) hs)]; rfl, ext_trans hB hbel⟩
  · go_enter Try.func13, Try.ntmps13
    go_wp2_with (go_at_call 20; refine (l1In_any _ _ _ _).mono ?_; rintro e w' ⟨rfl, hw'⟩; subst w')
    go_ret
    exact ⟨by unfold worldOkB flB; rw [decide_eq_false hf]; simp, hB⟩
end Go.Proofs.Ytgjommccflfjaaa
