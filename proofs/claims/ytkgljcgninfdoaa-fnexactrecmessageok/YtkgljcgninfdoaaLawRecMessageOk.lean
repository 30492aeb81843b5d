/-
  FnExactRecMessageOk, proved: for every message and every of.
-/
import Derived.Test.YtkgljcgninfdoaaMsgs
import Derived.Deep.RegionHeld3
namespace Go.Proofs.Ytkgljcgninfdoaa.fnExactRecMessageOk
open Go.ChangeShapes Go.WideShapes Go.ChangeAt Go.RowKit
set_option linter.unusedVariables false
set_option linter.unusedSimpArgs false

set_option maxHeartbeats 4000000 in
theorem walk (m : MsgH) (of_ : Int) (a : Option Addr) (l : List Sl) (n cap : Nat) (w : World) (hx : m.x.size ≤ maxLen) (hn : l.length = n) (hc : n ≤ maxLen) (h : SlotsAt w a l) :
    Calls Try.prog 7 #[.agg (msgV m (.slice a n cap)), .int .i64 of_] w fun e w' => e = .returned (.bool true) ∧ Below w.heap.size w w' := by
  have HL : Hid (l.length = n) := hn
  clear hn
  have hB : Below w.heap.size w (w.alloc (.cells (msgV m (.slice a n cap)) 58)) := ext_alloc (Below.refl _ _) _
  have hA := h.ext hB
  have b0 := Blk.new w (msgV m (.slice a n cap)) 58
  go_enter Try.func7, Try.ntmps7
  go_wp2_with fail
  refine (szMsg m a l n cap _ _ HL.out (by omega) (by omega) hc hx hA).mono ?_
  rintro e w1 ⟨r, rfl, r1, r2, r3, hb1⟩
  have a1 := hA.ext hb1
  have k1 := b0.ext hb1
  have c1 := k1.cell
  have B1 := ext_trans hB hb1
  clear hA hB b0 h hb1
  by_cases hr : r < 0
  · go_wp2_with fail
    go_ret
    exact ⟨rfl, B1⟩
  · have hs : n ≤ 1048576 := r3 (by omega)
    go_wp2_with fail
    refine (toMsg m a l n cap _ HL.out hs a1).mono ?_
    rintro e w2 ⟨g2, rfl, hg2, o2, hb2⟩
    go_wp2_with fail
    refine (specMsgOk m of_ _ l n n _ HL.out hc hx (o2.at a1.good)).mono ?_
    rintro e w3 ⟨rfl, hb3⟩
    have B3 := ext_trans hb2 hb3
    have a3 := a1.ext B3
    have k3 := k1.ext B3
    have c3 := k3.cell
    have BB3 := ext_trans B1 B3
    clear c1 k1 hg2 o2 hb2 hb3 B3 B1
    go_wp2_with fail
    refine (toMsg m a l n cap _ HL.out hs a3).mono ?_
    rintro e w4 ⟨g4, rfl, hg4, o4, hb4⟩
    have a4 := a3.ext hb4
    have k4 := k3.ext hb4
    have BB4 := ext_trans BB3 hb4
    clear c3 k3 BB3 hg4
    have q5 := Blk.new w4 (msgV m (.slice (some ⟨g4, 0, none⟩) n n)) 62
    have o5 := o4.ext (ext_alloc (Below.refl _ _) (.cells (msgV m (.slice (some ⟨g4, 0, none⟩) n n)) 62))
    go_wp2_with fail
    refine (implMsgOk m of_ _ l n n _ HL.out hc hx (o5.at a1.good)).mono ?_
    rintro e w5 ⟨rfl, hb5⟩
    have B5 := ext_trans (ext_alloc (Below.refl _ _) _) hb5
    have k5 := k4.ext B5
    have j5 := q5.ext hb5
    have a5 := a4.ext B5
    have p5 := o4.ext B5
    have BB5 := ext_trans BB4 B5
    clear k4 q5 a4 o4 o5 BB4 B5 hb5 hb4
    have K6 : Hid (∀ w', Below w5.heap.size w5 w' → w'.cell? ⟨w.heap.size, 0, none⟩ = some (.int .i64 m.k) ∧ w'.cell? ⟨w.heap.size, 1, none⟩ = some (.int .i64 m.f) ∧ w'.cell? ⟨w.heap.size, 2, none⟩ = some (.int .i64 m.t) ∧ w'.cell? ⟨w.heap.size, 3, none⟩ = some (.int .i64 m.b) ∧ w'.cell? ⟨w.heap.size, 4, none⟩ = some (.int .i64 m.i) ∧ w'.cell? ⟨w.heap.size, 5, none⟩ = some (.int .i64 m.n) ∧ w'.cell? ⟨w.heap.size, 6, none⟩ = some (.string m.x) ∧ w'.cell? ⟨w.heap.size, 7, none⟩ = some (.slice a n cap) ∧ w'.cell? ⟨w4.heap.size, 0, none⟩ = some (.int .i64 m.k) ∧ w'.cell? ⟨w4.heap.size, 1, none⟩ = some (.int .i64 m.f) ∧ w'.cell? ⟨w4.heap.size, 2, none⟩ = some (.int .i64 m.t) ∧ w'.cell? ⟨w4.heap.size, 3, none⟩ = some (.int .i64 m.b) ∧ w'.cell? ⟨w4.heap.size, 4, none⟩ = some (.int .i64 m.i) ∧ w'.cell? ⟨w4.heap.size, 5, none⟩ = some (.int .i64 m.n) ∧ w'.cell? ⟨w4.heap.size, 6, none⟩ = some (.string m.x) ∧ w'.cell? ⟨w4.heap.size, 7, none⟩ = some (.slice (some ⟨g4, 0, none⟩) n n) ∧ Below w5.heap.size w5 w') := fun w' hb => by
      have q1 := (k5.ext hb).cell
      have q2 := (j5.ext hb).cell
      exact ⟨q1 0, q1 1, q1 2, q1 3, q1 4, q1 5, q1 6, q1 7, q2 0, q2 1, q2 2, q2 3, q2 4, q2 5, q2 6, q2 7, hb⟩
    have hg := a5.good
    have HX : Hid (SlotsAt w5 a l ∧ SlotsOwn w5 g4 l ∧ GoodSlots l) := ⟨a5, p5, hg⟩
    clear a5 p5 hg k5 j5 a1 a3
    go_wp2_with fail
    go_region_held3 (fun w' => w'.cell? ⟨w.heap.size, 0, none⟩ = some (.int .i64 m.k) ∧ w'.cell? ⟨w.heap.size, 1, none⟩ = some (.int .i64 m.f) ∧ w'.cell? ⟨w.heap.size, 2, none⟩ = some (.int .i64 m.t) ∧ w'.cell? ⟨w.heap.size, 3, none⟩ = some (.int .i64 m.b) ∧ w'.cell? ⟨w.heap.size, 4, none⟩ = some (.int .i64 m.i) ∧ w'.cell? ⟨w.heap.size, 5, none⟩ = some (.int .i64 m.n) ∧ w'.cell? ⟨w.heap.size, 6, none⟩ = some (.string m.x) ∧ w'.cell? ⟨w.heap.size, 7, none⟩ = some (.slice a n cap) ∧ w'.cell? ⟨w4.heap.size, 0, none⟩ = some (.int .i64 m.k) ∧ w'.cell? ⟨w4.heap.size, 1, none⟩ = some (.int .i64 m.f) ∧ w'.cell? ⟨w4.heap.size, 2, none⟩ = some (.int .i64 m.t) ∧ w'.cell? ⟨w4.heap.size, 3, none⟩ = some (.int .i64 m.b) ∧ w'.cell? ⟨w4.heap.size, 4, none⟩ = some (.int .i64 m.i) ∧ w'.cell? ⟨w4.heap.size, 5, none⟩ = some (.int .i64 m.n) ∧ w'.cell? ⟨w4.heap.size, 6, none⟩ = some (.string m.x) ∧ w'.cell? ⟨w4.heap.size, 7, none⟩ = some (.slice (some ⟨g4, 0, none⟩) n n) ∧ Below w5.heap.size w5 w')
      ((go_split_ands; refine K6.out _ ?_; first | exact (Below.refl _ _).drew | exact (Below.refl _ _) | assumption | exact ext_trans (by assumption) (by assumption) | exact (ext_trans (by assumption) (by assumption)).drew))
      (first
        | (go_at_call 31; go_split_ands; refine (toMsg m a l n cap _ HL.out hs (HX.out.1.ext (by assumption))).mono ?_; rintro e w6 ⟨g6, rfl, hg6, o6, hb6⟩)
        | (go_at_call 33; go_split_ands; refine (eqMsg_same m _ _ l n n n _ HL.out hc ((HX.out.2.1.ext (by assumption)).at HX.out.2.2) (o6.at HX.out.2.2)).mono ?_; rintro e w7 ⟨rfl, hb7⟩))
    go_split_ands
    have BB7 := ext_trans BB5 (show Below w5.heap.size w5 w7 by assumption)
    go_wp2
    go_ret
    exact ⟨rfl, BB7⟩

set_option maxRecDepth 100000 in
theorem lifted (os : Os) (started : os.Started) (H : Type) (enc : TypeId × Value → H) :
    ReturnsInHanded {} Try.checked os 7 .any (Rows.fnExactRecMessageOkSpec.pre6 enc Try.prog Try.f7 Rows.fnExactRecMessageOkRow.domain false) (Rows.fnExactRecMessageOkSpec.post enc Try.prog Try.f7 false true false false) := by
  refine returnsInHanded_of_change (C := Try.checked) own started (by kernel_rfl) Try.func7
    (ChangeSpec.witness6 (enc := enc) (C := Try.checked) false ⟨#[], #[.agg #[.int .i64 0, .int .i64 0, .int .i64 0, .int .i64 0, .int .i64 0, .int .i64 0, .string ⟨#[]⟩, .slice none 0 0], .int .i64 0], []⟩ 8 (by kernel_rfl) (by kernel_rfl) (by kernel_rfl) (by kernel_rfl)) ?_
  intro W base args ds gs before hval0 hW hcnd _
  have hval : ∀ (j : Nat) t v, Try.f7.params[j]? = some t → args[j]? = some v → Value.okWide Try.prog W .any base t v := hval0
  have hW' := hW
  obtain ⟨p, q, hA0, hV, rfl, hfz, hnd⟩ := hW
  have hA : DataW.TrodAll enc Try.prog W 0 (fun _ => true) true Try.f7.params.toList args.toList ds p := hA0
  rw [Try.params7] at hA hval
  obtain ⟨v0, vs0, d0, ds0, p0, q0, hargs, rfl, rfl, h0, r0⟩ := trodAll_cons hA
  obtain ⟨v1, vs1, d1, ds1, p1, q1, rfl, rfl, rfl, h1, r1⟩ := trodAll_cons r0
  obtain ⟨rfl, rfl, rfl⟩ := trodAll_nil r1
  obtain rfl : args = #[v0, v1] := by cases args; simp_all
  obtain ⟨rfl, rfl⟩ := trodVars_none hV
  have k0 := h0
  have lt0 : ∀ x ∈ p0, x.block < W.heap.size := by obtain ⟨m, hm⟩ := k0; exact DataW.trod_lt m _ _ _ hm
  have k1 := h1
  have lt1 : ∀ x ∈ p1, x.block < W.heap.size := by obtain ⟨m, hm⟩ := k1; exact DataW.trod_lt m _ _ _ hm
  obtain ⟨m, a, n, cap, l, rfl, hx, hn, hm, hs⟩ := msg_open (hval 0 58 v0 rfl rfl) h0
  obtain ⟨a1, rfl, rfl, rfl, w1⟩ := open_int Try.underlying3 (hval 1 3 v1 rfl rfl) h1
  clear hA0 hval0
  refine (walk m a1 a l n cap W hx hn hm hs).mono fun e W' ⟨he, bel⟩ => ?_
  subst he
  exact ⟨_, rfl, _, _, _, [], _, [], hW', trodAll_mk1 (shut_bool Try.underlying4 _), (trodAll_cons_mk (Below.trod laidOut (by kernel_rfl) (of_decide_eq_true (by kernel_rfl)) k0 bel lt0) (trodAll_cons_mk (Below.trod laidOut (by kernel_rfl) (of_decide_eq_true (by kernel_rfl)) k1 bel lt1) trodAll_mk0)), rfl, bel.frame _, fun h => by cases h⟩

theorem over : Rows.fnExactRecMessageOkRow.holds Try.pinned (OpenSpec.ofChange Rows.fnExactRecMessageOkSpec) :=
  OpenClaim.holds_of_wide 7 Try.f7 rfl rfl rfl rfl rfl rfl rfl ⟨rfl, rfl, rfl, rfl, rfl⟩ rfl rfl rfl rfl rfl (by kernel_rfl) Try.func7 (by kernel_rfl)
    (of_decide_eq_true (by kernel_rfl)) (by unfold Func.isWrapper; first | (rw [if_pos (by decide +kernel)]; kernel_rfl) | (rw [if_neg (by decide +kernel)]; exact ⟨rfl, rfl⟩))
    (fun os started H enc _ => lifted os started H enc)

/-- THE STATEMENT -/
theorem proved : Rows.FnExactRecMessageOkSaid := over
#print axioms proved
end Go.Proofs.Ytkgljcgninfdoaa.fnExactRecMessageOk
