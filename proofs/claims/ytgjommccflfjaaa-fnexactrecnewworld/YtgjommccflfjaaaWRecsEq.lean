/-
  eqRecorderS of the same data twice.
-/
import Derived.Test.YtgjommccflfjaaaWRecs
import Derived.Test.YtgjommccflfjaaaDrawnRec
namespace Go.Proofs.Ytgjommccflfjaaa
open Go.ChangeShapes Go.WideShapes Go.ChangeAt Go.RowKit Go.Deep Go.Joins
set_option linter.unusedVariables false
set_option linter.unusedSimpArgs false

/-- two ranges lie there; what was there at B is as it was -/
structure EqS (B : World) (b o : Nat) (cs : List Value) (b2 o2 : Nat) (cs2 : List Value) (w' : World) : Prop where
  r1 : w'.rangeAt b o cs
  r2 : w'.rangeAt b2 o2 cs2
  bel : Below B.heap.size B w'
  l1 : b < B.heap.size
  l2 : b2 < B.heap.size
theorem EqS.ext {B : World} {b o : Nat} {cs : List Value} {b2 o2 : Nat} {cs2 : List Value} {w' v' : World} (h : EqS B b o cs b2 o2 cs2 w') (hb : Below w'.heap.size w' v') : EqS B b o cs b2 o2 cs2 v' :=
  ⟨range_ext h.r1 hb (Nat.lt_of_lt_of_le h.l1 h.bel.size), range_ext h.r2 hb (Nat.lt_of_lt_of_le h.l2 h.bel.size), ext_trans h.bel hb, h.l1, h.l2⟩
theorem EqS.drew {B : World} {b o : Nat} {cs : List Value} {b2 o2 : Nat} {cs2 : List Value} {w' : World} (h : EqS B b o cs b2 o2 cs2 w') : EqS B b o cs b2 o2 cs2 w'.drew :=
  ⟨(World.rangeAt_drew _ _ _ _).2 h.r1, (World.rangeAt_drew _ _ _ _).2 h.r2, h.bel.drew, h.l1, h.l2⟩

set_option maxHeartbeats 2000000 in
theorem eqRecs_same (a1 a2 : Option Addr) (l : List Rc) (n cap1 cap2 : Nat) (w : World) (hn : l.length = n) (hc : n ≤ maxLen) (h1 : RecsAt w a1 l) (h2 : RecsAt w a2 l) :
    Calls Try.prog 24 #[.slice a1 n cap1, .slice a2 n cap2] w fun e w' => e = .returned (.bool true) ∧ Below w.heap.size w w' := by
  unfold maxLen at hc
  have HL : Hid (l.length = n) := hn
  clear hn
  go_enter Try.func24, Try.ntmps24
  go_wp2
  go_loopw [5] (fun i wr => ∃ (k : Nat), k ≤ n ∧ i = .int .i64 k ∧ Below w.heap.size w wr) (fun i _ => n - (intOf i).toNat)
  case atStart => exact ⟨0, Nat.zero_le _, rfl, Below.refl _ _⟩
  case round =>
    obtain ⟨k, hk, rfl, hbel⟩ := hrel
    by_cases hlt : k < n
    · obtain ⟨s, hs⟩ : ∃ s, l[k]? = some s := ⟨_, List.getElem?_eq_getElem (by rw [HL.out]; exact hlt)⟩
      obtain ⟨b, off, p, rfl, hb, hcs, hR⟩ := (h1.ext hbel) k s hs
      obtain ⟨b2, off2, q, rfl, hb2, hcs2, hR2⟩ := (h2.ext hbel) k s hs
      have HS : EqS wr b (off + k * 18) (rcV s p).toList b2 (off2 + k * 18) (rcV s q).toList wr.drew := (EqS.mk hcs hcs2 (Below.refl _ _) hb hb2).drew
      clear hs h1 h2 hcs hcs2
      have e1 : (0 : Int) ≤ (k : Int) := by omega
      have e2 : (k : Int) < (n : Int) := by omega
      go_wp2_with fail
      refine wp_region_held_drew (S := EqS wr b (off + k * 18) (rcV s p).toList b2 (off2 + k * 18) (rcV s q).toList) (by kernel_rfl) HS (fun hHeld => ?_)
      simp only [List.size_toArray, List.length_cons, List.length_nil, Nat.reduceAdd, Array.replicate_succ, Array.replicate_zero, List.push_toArray, List.append_toArray, List.nil_append, List.cons_append]
      clear HS
      refine wpAnyH_take (i := 0) (v := ?_) (at_lit rfl) (by kernel_rfl) (by kernel_rfl) (by kernel_rfl) (fun _ _ _ h => h) (Or.inl ⟨by rfl, ?_⟩) hHeld ?_
      rotate_left
      · (intro w9 hSw; clear hSw; go_simp; try with_reducible rfl)
      try simp only [Act.put, List.setIfInBounds_toArray, List.set_cons_zero, List.set_cons_succ]
      refine wpAnyH_take (i := 1) (v := ?_) (at_lit rfl) (by kernel_rfl) (by kernel_rfl) (by kernel_rfl) (fun _ _ _ h => h) (Or.inl ⟨by rfl, ?_⟩) hHeld ?_
      rotate_left
      · (intro w9 hSw; clear hSw; go_simp; try with_reducible rfl)
      try simp only [Act.put, List.setIfInBounds_toArray, List.set_cons_zero, List.set_cons_succ]
      refine wpAnyH_take (i := 2) (v := ?_) (at_lit rfl) (by kernel_rfl) (by kernel_rfl) (by kernel_rfl) (fun _ _ _ h => h) (Or.inl ⟨by rfl, ?_⟩) hHeld ?_
      rotate_left
      · (intro w9 hSw; clear hSw; go_simp; try with_reducible rfl)
      try simp only [Act.put, List.setIfInBounds_toArray, List.set_cons_zero, List.set_cons_succ]
      refine wpAnyH_take (i := 3) (at_lit rfl) (by kernel_rfl) (by kernel_rfl) (by kernel_rfl) (fun _ _ _ h => h) (yieldsIf_load_mid (by rfl) 51 _ rfl b (off + k * 18) rfl (rcV s p).toList _ (fun w hw => hw.r1) Try.underlying51 rfl (by kernel_rfl)) hHeld ?_
      try simp only [Act.put, List.setIfInBounds_toArray, List.set_cons_zero, List.set_cons_succ]
      refine wpAnyH_take (i := 4) (v := ?_) (at_lit rfl) (by kernel_rfl) (by kernel_rfl) (by kernel_rfl) (fun _ _ _ h => h) (Or.inl ⟨by rfl, ?_⟩) hHeld ?_
      rotate_left
      · (intro w9 hSw; clear hSw; go_simp; try with_reducible rfl)
      try simp only [Act.put, List.setIfInBounds_toArray, List.set_cons_zero, List.set_cons_succ]
      refine wpAnyH_take (i := 5) (v := ?_) (at_lit rfl) (by kernel_rfl) (by kernel_rfl) (by kernel_rfl) (fun _ _ _ h => h) (Or.inl ⟨by rfl, ?_⟩) hHeld ?_
      rotate_left
      · (intro w9 hSw; clear hSw; go_simp; try with_reducible rfl)
      try simp only [Act.put, List.setIfInBounds_toArray, List.set_cons_zero, List.set_cons_succ]
      refine wpAnyH_take (i := 6) (v := ?_) (at_lit rfl) (by kernel_rfl) (by kernel_rfl) (by kernel_rfl) (fun _ _ _ h => h) (Or.inl ⟨by rfl, ?_⟩) hHeld ?_
      rotate_left
      · (intro w9 hSw; clear hSw; go_simp; try with_reducible rfl)
      try simp only [Act.put, List.setIfInBounds_toArray, List.set_cons_zero, List.set_cons_succ]
      refine wpAnyH_take (i := 7) (at_lit rfl) (by kernel_rfl) (by kernel_rfl) (by kernel_rfl) (fun _ _ _ h => h) (yieldsIf_load_mid (by rfl) 51 _ rfl b2 (off2 + k * 18) rfl (rcV s q).toList _ (fun w hw => hw.r2) Try.underlying51 rfl (by kernel_rfl)) hHeld ?_
      try simp only [Act.put, List.setIfInBounds_toArray, List.set_cons_zero, List.set_cons_succ]
      refine wpAnyH_ready (rs := [8]) (by kernel_rfl) (by simp) ?_
      refine AllReadyH.cons (at_lit rfl) (fun K hK => ?_) AllReadyH.nil
      go_simp
      refine (eqRec_same s p q _ (hR.ext hHeld.bel) (hR2.ext hHeld.bel)).mono ?_
      rintro e w7 ⟨rfl, hb7⟩
      go_wp2_with fail
      refine hK.out _ _ (hHeld.ext hb7) (fun hNew => ?_)
      clear hK K hHeld hb7
      have hHeld := hNew
      clear hNew
      try simp only [Act.put, List.setIfInBounds_toArray, List.set_cons_zero, List.set_cons_succ]
      refine wpAnyH_take (i := 9) (v := ?_) (at_lit rfl) (by kernel_rfl) (by kernel_rfl) (by kernel_rfl) (fun _ _ _ h => h) (Or.inl ⟨by rfl, ?_⟩) hHeld ?_
      rotate_left
      · (intro w9 hSw; clear hSw; go_simp; try with_reducible rfl)
      try simp only [Act.put, List.setIfInBounds_toArray, List.set_cons_zero, List.set_cons_succ]
      refine wpAnyH_done (by kernel_rfl) ?_ _
      have BB7 := ext_trans hbel hHeld.bel
      clear hHeld
      go_wp2
      go_roundw
      case rel => exact ⟨k + 1, by omega, by go_num, BB7⟩
      case measure => simp [intOf]; omega
    · go_wp2
      go_ret
      exact ⟨rfl, hbel⟩
end Go.Proofs.Ytgjommccflfjaaa
