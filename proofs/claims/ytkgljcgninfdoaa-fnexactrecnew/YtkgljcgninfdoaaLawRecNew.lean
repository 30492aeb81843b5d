/-
  FnExactRecNew, proved: for every number and every of.
-/
import Derived.Test.YtkgljcgninfdoaaNewFns
import Derived.WalkKit
import Derived.ProofKit
import Derived.OpenShut
import Derived.ShutString
import Derived.ChangeOld
import Derived.Below
namespace Go.Proofs.Ytkgljcgninfdoaa.fnExactRecNew
open Go.Proofs.Ytkgljcgninfdoaa.atNil
open Go.ChangeShapes Go.WideShapes Go.ChangeAt Go.RowKit
open Go.ChangeMaps (open_string shut_string)
set_option linter.unusedVariables false      -- a walk need not use every 'w<i>' (that an integer argument fits its kind)

theorem walk (a0 : Int) (a1 : Int) (w0 : (Lit.int .i64 a0).wf = true) (w1 : (Lit.int .i64 a1).wf = true) (w : World) :
    Calls Try.prog 5 #[.int .i64 a0, .int .i64 a1] w fun e w' => e = .returned (.bool true) ∧ Below w.heap.size w w' := by
  obtain ⟨n, o, u, hS, hI⟩ := both_any a0 a1
  go_enter Try.func5, Try.ntmps5
  go_wp2_with fail
  refine (hS _).mono ?_
  rintro e w1 ⟨rfl, hb1⟩
  go_wp2_with ((with_reducible refine wpList_store_rec (recV n o u) rfl ?_ ?_ ?_ ?_ ?_); (· rfl); (· rfl); (· rfl); (· simp [Value.oneCell']))
  refine (hI _).mono ?_
  rintro e w2 ⟨rfl, hb2⟩
  have k5 := (Blk.new w1 (recV n o u) 44).ext hb2
  have k5' := k5.alloc (.cells (recV n o u) 44)
  have k6' := Blk.new w2 (recV n o u) 44
  go_wp2_with (first
    | ((with_reducible refine wpList_store_rec (recV n o u) rfl ?_ ?_ ?_ ?_ ?_); (· rfl); (· rfl); (· rfl); (· simp [Value.oneCell']))
    | ((with_reducible refine wpList_load_rec w1.heap.size (recV n o u) rfl ?_ ?_ ?_); (· rfl); (· assumption))
    | ((with_reducible refine wpList_load_rec w2.heap.size (recV n o u) rfl ?_ ?_ ?_); (· rfl); (· assumption)))
  refine (eqRecorder n o u _).mono ?_
  rintro e w3 ⟨rfl, hb3⟩
  have j5 := k5'.ext hb3
  have j6 := k6'.ext hb3
  clear k5' k6' k5
  go_wp2_with (first
    | ((with_reducible refine wpList_load_rec w1.heap.size (recV n o u) rfl ?_ ?_ ?_); (· rfl); (· assumption))
    | ((with_reducible refine wpList_load_rec w2.heap.size (recV n o u) rfl ?_ ?_ ?_); (· rfl); (· assumption)))
  refine (markRecorder n o u _ _).mono ?_
  rintro e w4 ⟨rfl, hb4⟩
  have k5 := j5.ext hb4
  have k6 := j6.ext hb4
  clear j5 j6
  go_wp2_with (first
    | ((with_reducible refine wpList_load_rec w1.heap.size (recV n o u) rfl ?_ ?_ ?_); (· rfl); (· assumption))
    | ((with_reducible refine wpList_load_rec w2.heap.size (recV n o u) rfl ?_ ?_ ?_); (· rfl); (· assumption)))
  refine (heldRecorder n o u _ _ (by omega)).mono ?_
  rintro e w5 ⟨rfl, hb5⟩
  have j5 := k5.ext hb5
  have j6 := k6.ext hb5
  clear k5 k6
  go_wp2_with fail
  refine (hI _).mono ?_
  rintro e w6 ⟨rfl, hb6⟩
  have k5 := (j5.ext hb6).alloc (.cells (recV n o u) 44)
  have k6 := (j6.ext hb6).alloc (.cells (recV n o u) 44)
  have k9 := Blk.new w6 (recV n o u) 44
  clear j5 j6
  go_wp2_with (first
    | ((with_reducible refine wpList_store_rec (recV n o u) rfl ?_ ?_ ?_ ?_ ?_); (· rfl); (· rfl); (· rfl); (· simp [Value.oneCell']))
    | ((with_reducible refine wpList_load_rec w1.heap.size (recV n o u) rfl ?_ ?_ ?_); (· rfl); (· assumption))
    | ((with_reducible refine wpList_load_rec w2.heap.size (recV n o u) rfl ?_ ?_ ?_); (· rfl); (· assumption))
    | ((with_reducible refine wpList_load_rec w6.heap.size (recV n o u) rfl ?_ ?_ ?_); (· rfl); (· assumption)))
  refine (eqRecorder n o u _).mono ?_
  rintro e w7 ⟨rfl, hb7⟩
  have j5 := k5.ext hb7
  have j6 := k6.ext hb7
  clear k5 k6 k9
  go_wp2_with (first
    | ((with_reducible refine wpList_load_rec w1.heap.size (recV n o u) rfl ?_ ?_ ?_); (· rfl); (· assumption))
    | ((with_reducible refine wpList_load_rec w2.heap.size (recV n o u) rfl ?_ ?_ ?_); (· rfl); (· assumption)))
  refine (heldRecorder n o u _ _ (by omega)).mono ?_
  rintro e w8 ⟨rfl, hb8⟩
  clear j5 j6
  go_wp2_with fail
  go_ret
  exact ⟨rfl, ext_trans (ext_trans (ext_alloc (ext_trans (ext_trans (ext_trans (ext_trans (ext_alloc (ext_trans (ext_alloc hb1 _) hb2) _) hb3) hb4) hb5) hb6) _) hb7) hb8⟩
set_option maxRecDepth 100000 in
theorem lifted (os : Os) (started : os.Started) (H : Type) (enc : TypeId × Value → H) :
    ReturnsInHanded {} Try.checked os 5 .any (Rows.fnExactRecNewSpec.pre6 enc Try.prog Try.f5 Rows.fnExactRecNewRow.domain false) (Rows.fnExactRecNewSpec.post enc Try.prog Try.f5 false true false false) := by
  refine returnsInHanded_of_change (C := Try.checked) own started (by kernel_rfl) Try.func5
    (ChangeSpec.witness6 (enc := enc) (C := Try.checked) false ⟨#[], #[.int .i64 0, .int .i64 0], []⟩ 8 (by kernel_rfl) (by kernel_rfl) (by kernel_rfl) (by kernel_rfl)) ?_
  intro W base args ds gs before hval0 hW hcnd _
  have hval : ∀ (j : Nat) t v, Try.f5.params[j]? = some t → args[j]? = some v → Value.okWide Try.prog W .any base t v := hval0
  have hW' := hW
  obtain ⟨p, q, hA0, hV, rfl, hfz, hnd⟩ := hW
  have hA : DataW.TrodAll enc Try.prog W 0 (fun _ => true) true Try.f5.params.toList args.toList ds p := hA0
  rw [Try.params5] at hA hval
  obtain ⟨v0, vs0, d0, ds0, p0, q0, hargs, rfl, rfl, h0, r0⟩ := trodAll_cons hA
  obtain ⟨v1, vs1, d1, ds1, p1, q1, rfl, rfl, rfl, h1, r1⟩ := trodAll_cons r0
  obtain ⟨rfl, rfl, rfl⟩ := trodAll_nil r1
  obtain rfl : args = #[v0, v1] := by cases args; simp_all
  obtain ⟨rfl, rfl⟩ := trodVars_none hV
  have k0 := h0
  have lt0 : ∀ x ∈ p0, x.block < W.heap.size := by obtain ⟨m, hm⟩ := k0; exact DataW.trod_lt m _ _ _ hm
  have k1 := h1
  have lt1 : ∀ x ∈ p1, x.block < W.heap.size := by obtain ⟨m, hm⟩ := k1; exact DataW.trod_lt m _ _ _ hm
  obtain ⟨a0, rfl, rfl, rfl, w0⟩ := open_int Try.underlying3 (hval 0 3 v0 rfl rfl) h0
  obtain ⟨a1, rfl, rfl, rfl, w1⟩ := open_int Try.underlying3 (hval 1 3 v1 rfl rfl) h1
  clear hA0 hval0
  refine (walk a0 a1 w0 w1 W).mono fun e W' ⟨he, bel⟩ => ?_
  subst he
  exact ⟨_, rfl, _, _, _, [], _, [], hW', trodAll_mk1 (shut_bool Try.underlying4 _), (trodAll_cons_mk (Below.trod laidOut (by kernel_rfl) (of_decide_eq_true (by kernel_rfl)) k0 bel lt0) (trodAll_cons_mk (Below.trod laidOut (by kernel_rfl) (of_decide_eq_true (by kernel_rfl)) k1 bel lt1) trodAll_mk0)), rfl, bel.frame _, fun h => by cases h⟩

theorem over : Rows.fnExactRecNewRow.holds Try.pinned (OpenSpec.ofChange Rows.fnExactRecNewSpec) :=
  OpenClaim.holds_of_wide 5 Try.f5 rfl rfl rfl rfl rfl rfl rfl ⟨rfl, rfl, rfl, rfl, rfl⟩ rfl rfl rfl rfl rfl (by kernel_rfl) Try.func5 (by kernel_rfl)
    (of_decide_eq_true (by kernel_rfl)) (by unfold Func.isWrapper; first | (rw [if_pos (by decide +kernel)]; kernel_rfl) | (rw [if_neg (by decide +kernel)]; exact ⟨rfl, rfl⟩))
    (fun os started H enc _ => lifted os started H enc)

/-- THE STATEMENT -/
theorem proved : Rows.FnExactRecNewSaid := over
#print axioms proved
end Go.Proofs.Ytkgljcgninfdoaa.fnExactRecNew
