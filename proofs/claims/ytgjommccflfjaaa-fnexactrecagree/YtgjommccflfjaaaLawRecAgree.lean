/-
  FnExactRecAgree, proved: for every world.
-/
import Derived.Test.YtgjommccflfjaaaWAgree
import Derived.Test.YtgjommccflfjaaaWLaw
namespace Go.Proofs.Ytgjommccflfjaaa.fnExactRecAgree
open Go.ChangeShapes Go.WideShapes Go.ChangeAt Go.RowKit
set_option linter.unusedVariables false
set_option linter.unusedSimpArgs false

set_option maxHeartbeats 8000000 in
set_option maxRecDepth 20000 in
theorem walk (r : Wd) (p : WdP) (w : World) (h : WdAt w r p) :
    Calls Try.prog 6 #[.agg (wdV r p)] w fun e w' => e = .returned (.bool true) ∧ Below w.heap.size w w' := by
  have hB : Below w.heap.size w (w.alloc (.cells (wdV r p) 35)) := ext_alloc (Below.refl _ _) _
  have hA := h.ext hB
  have b0 := Blk.new w (wdV r p) 35
  clear h
  go_enter Try.func6, Try.ntmps6
  go_wp2_with fail
  refine (szWd r p _ _ (by omega) (by omega) hA).mono ?_
  rintro e w1 ⟨q, rfl, r1, r2, r3, hb1⟩
  have a1 := hA.ext hb1
  have k1 := b0.ext hb1
  have c1 := k1.cell
  have B1 := ext_trans hB hb1
  clear hA hB b0 hb1
  by_cases hr : q < 0
  · go_wp2_with fail
    go_ret
    exact ⟨rfl, B1⟩
  have HS : Hid (WdSmall r) := r3 (by omega)
  clear r3
  go_wp2_with fail
  refine (toWd r p _ HS.out a1).mono ?_
  rintro e w2 ⟨p2, rfl, a2, hb2⟩
  go_wp2_with fail
  refine (specAgree r p2 _ HS.out a2.at).mono ?_
  rintro e w3 ⟨rfl, hb3⟩
  have B3 := ext_trans hb2 hb3
  have a3 := a1.ext B3
  have k3 := k1.ext B3
  have c3 := k3.cell
  have BB3 := ext_trans B1 B3
  clear a1 k1 c1 B1 B3 hb2 hb3 a2
  go_wp2_with fail
  refine (toWd r p _ HS.out a3).mono ?_
  rintro e w4 ⟨p4, rfl, o4, hb4⟩
  have a4 := a3.ext hb4
  have k4 := k3.ext hb4
  have BB4 := ext_trans BB3 hb4
  clear a3 k3 c3 BB3 hb4
  have e5 : Below w4.heap.size w4 (w4.alloc (.cells (wdV r p4) 26)) := ext_alloc (Below.refl _ _) _
  have q5 := Blk.new w4 (wdV r p4) 26
  have o5 := o4.ext e5
  go_wp2_with fail
  refine (implAgree r p4 _ HS.out o5).mono ?_
  rintro e w5 ⟨rfl, hb5⟩
  have B5 := ext_trans e5 hb5
  have hK0 : LawW w5 w.heap.size w4.heap.size r p p4 w5 := ⟨k4.ext B5, q5.ext hb5, Below.refl _ _⟩
  have HX : Hid (WdAt w5 r p ∧ WdAt w5 r p4) := ⟨a4.ext B5, (o4.ext B5).at⟩
  have BB5 := ext_trans BB4 B5
  clear a4 k4 q5 o4 o5 BB4 B5 hb5 e5
  go_wp2_with fail
  refine wp_region_held_drew (S := LawW w5 w.heap.size w4.heap.size r p p4) (by kernel_rfl) hK0.drew (fun hHeld => ?_)
  clear hK0
  simp only [List.size_toArray, List.length_cons, List.length_nil, Nat.reduceAdd, Array.replicate_succ, Array.replicate_zero, List.push_toArray, List.append_toArray, List.nil_append, List.cons_append]
  refine wpAnyH_take (i := 0) (at_lit rfl) (by kernel_rfl) (by kernel_rfl) (by kernel_rfl) (fun _ _ _ h => h) (yields_ownW (by rfl) _ rfl rfl) hHeld ?_
  try simp only [Act.put, List.setIfInBounds_toArray, List.set_cons_zero, List.set_cons_succ]
  refine wpAnyH_take (i := 1) (at_lit rfl) (by kernel_rfl) (by kernel_rfl) (by kernel_rfl) (fun _ _ _ h => h) (yields_lawW (by rfl) _ rfl rfl) hHeld ?_
  try simp only [Act.put, List.setIfInBounds_toArray, List.set_cons_zero, List.set_cons_succ]
  refine wpAnyH_ready (rs := [2]) (by kernel_rfl) (by simp) ?_
  refine AllReadyH.cons (at_lit rfl) (fun K hK => ?_) AllReadyH.nil
  go_simp
  refine (toWd r p _ HS.out (HX.out.1.ext hHeld.bel)).mono ?_
  rintro e w6 ⟨p6, rfl, o6, hb6⟩
  go_wp2_with fail
  refine hK.out _ _ (hHeld.ext hb6) (fun hNew => ?_)
  clear hK K hHeld hb6
  have hHeld := hNew
  clear hNew
  try simp only [Act.put, List.setIfInBounds_toArray, List.set_cons_zero, List.set_cons_succ]
  refine wpAnyH_ready (rs := [3]) (by kernel_rfl) (by simp) ?_
  refine AllReadyH.cons (at_lit rfl) (fun K hK => ?_) AllReadyH.nil
  go_simp
  refine (eqWd_same r p4 p6 _ (HX.out.2.ext hHeld.bel) o6.at).mono ?_
  rintro e w7 ⟨rfl, hb7⟩
  go_wp2_with fail
  refine hK.out _ _ (hHeld.ext hb7) (fun hNew => ?_)
  clear hK K hHeld hb7 o6
  have hHeld := hNew
  clear hNew
  try simp only [Act.put, List.setIfInBounds_toArray, List.set_cons_zero, List.set_cons_succ]
  refine wpAnyH_take (i := 4) (v := ?_) (at_lit rfl) (by kernel_rfl) (by kernel_rfl) (by kernel_rfl) (fun _ _ _ h => h) (Or.inl ⟨by rfl, ?_⟩) hHeld ?_
  rotate_left
  · (intro w9 hSw; clear hSw; go_simp; try with_reducible rfl)
  try simp only [Act.put, List.setIfInBounds_toArray, List.set_cons_zero, List.set_cons_succ]
  refine wpAnyH_done (by kernel_rfl) ?_ _
  have BB7 := ext_trans BB5 hHeld.bel
  clear hHeld
  go_wp2
  go_ret
  exact ⟨rfl, BB7⟩

set_option maxRecDepth 100000 in
theorem lifted (os : Os) (started : os.Started) (H : Type) (enc : TypeId × Value → H) :
    ReturnsInHanded {} Try.checked os 6 .any (Rows.fnExactRecAgreeSpec.pre6 enc Try.prog Try.f6 Rows.fnExactRecAgreeRow.domain false) (Rows.fnExactRecAgreeSpec.post enc Try.prog Try.f6 false true false false) := by
  refine returnsInHanded_of_change (C := Try.checked) own started (by kernel_rfl) Try.func6
    (ChangeSpec.witness6 (enc := enc) (C := Try.checked) false ⟨#[], #[.agg #[.slice none 0 0, .slice none 0 0, .slice none 0 0]], []⟩ 8 (by kernel_rfl) (by kernel_rfl) (by kernel_rfl) (by kernel_rfl)) ?_
  intro W base args ds gs before hval0 hW hcnd _
  have hval : ∀ (j : Nat) t v, Try.f6.params[j]? = some t → args[j]? = some v → Value.okWide Try.prog W .any base t v := hval0
  have hW' := hW
  obtain ⟨p, q, hA0, hV, rfl, hfz, hnd⟩ := hW
  have hA : DataW.TrodAll enc Try.prog W 0 (fun _ => true) true Try.f6.params.toList args.toList ds p := hA0
  rw [Try.params6] at hA hval
  obtain ⟨v0, vs0, d0, ds0, p0, q0, hargs, rfl, rfl, h0, r0⟩ := trodAll_cons hA
  obtain ⟨rfl, rfl, rfl⟩ := trodAll_nil r0
  obtain rfl : args = #[v0] := by cases args; simp_all
  obtain ⟨rfl, rfl⟩ := trodVars_none hV
  have k0 := h0
  have lt0 : ∀ x ∈ p0, x.block < W.heap.size := by obtain ⟨m, hm⟩ := k0; exact DataW.trod_lt m _ _ _ hm
  obtain ⟨r, rp, rfl, hs⟩ := world_open (hval 0 35 v0 rfl rfl) h0
  clear hA0 hval0
  refine (walk r rp W hs).mono fun e W' ⟨he, bel⟩ => ?_
  subst he
  exact ⟨_, rfl, _, _, _, [], _, [], hW', trodAll_mk1 (shut_bool Try.underlying4 _), (trodAll_cons_mk (Below.trod laidOut (by kernel_rfl) (of_decide_eq_true (by kernel_rfl)) k0 bel lt0) trodAll_mk0), rfl, bel.frame _, fun h => by cases h⟩

theorem over : Rows.fnExactRecAgreeRow.holds Try.pinned (OpenSpec.ofChange Rows.fnExactRecAgreeSpec) :=
  OpenClaim.holds_of_wide 6 Try.f6 rfl rfl rfl rfl rfl rfl rfl ⟨rfl, rfl, rfl, rfl, rfl⟩ rfl rfl rfl rfl rfl (by kernel_rfl) Try.func6 (by kernel_rfl)
    (of_decide_eq_true (by kernel_rfl)) (by unfold Func.isWrapper; first | (rw [if_pos (by decide +kernel)]; kernel_rfl) | (rw [if_neg (by decide +kernel)]; exact ⟨rfl, rfl⟩))
    (fun os started H enc _ => lifted os started H enc)

/-- THE STATEMENT -/
theorem proved : Rows.FnExactRecAgreeSaid := over
#print axioms proved
end Go.Proofs.Ytgjommccflfjaaa.fnExactRecAgree
