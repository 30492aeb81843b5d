/-
  FnExactRecNewWorld, proved: for every number.
-/
import Derived.Test.YtgjommccflfjaaaWMarkW
namespace Go.Proofs.Ytgjommccflfjaaa.fnExactRecNewWorld
open Go.ChangeShapes Go.WideShapes Go.ChangeAt Go.RowKit
set_option linter.unusedVariables false
set_option linter.unusedSimpArgs false

theorem eq_nil (w : World) : Calls Try.prog 9 #[.agg #[.slice none 0 0, .slice none 0 0, .slice none 0 0], .agg #[.slice none 0 0, .slice none 0 0, .slice none 0 0]] w fun e w' => e = .returned (.bool true) ∧ Below w.heap.size w w' :=
  eqWd_same ⟨[], [], []⟩ ⟨none, 0, none, 0, none, 0⟩ ⟨none, 0, none, 0, none, 0⟩ w ⟨(fun i r h => by simp at h), (by unfold maxLen; simp), (fun i r h => by simp at h), (by unfold maxLen; simp), (fun i r h => by simp at h), (by unfold maxLen; simp)⟩ ⟨(fun i r h => by simp at h), (by unfold maxLen; simp), (fun i r h => by simp at h), (by unfold maxLen; simp), (fun i r h => by simp at h), (by unfold maxLen; simp)⟩
theorem eq_new {k : Nat} {n : Int} {w : World} {B1 B2 g1 c1 g2 c2 : Nat} (hk : k ≤ 5) (h1 : w.ownsRow B1 51 18 (.slice (some ⟨g1, 0, none⟩) k c1) k (newC k n)) (h2 : w.ownsRow B2 51 18 (.slice (some ⟨g2, 0, none⟩) k c2) k (newC k n)) :
    Calls Try.prog 9 #[.agg #[.slice (some ⟨g1, 0, none⟩) k c1, .slice none 0 0, .slice none 0 0], .agg #[.slice (some ⟨g2, 0, none⟩) k c2, .slice none 0 0, .slice none 0 0]] w fun e w' => e = .returned (.bool true) ∧ Below w.heap.size w w' := by
  have h := eqWd_same ⟨newL k n, [], []⟩ ⟨some ⟨g1, 0, none⟩, c1, none, 0, none, 0⟩ ⟨some ⟨g2, 0, none⟩, c2, none, 0, none, 0⟩ w ⟨new_recs h1, (by rw [newL_len]; unfold maxLen; omega), (fun i r h => by simp at h), (by unfold maxLen; simp), (fun i r h => by simp at h), (by unfold maxLen; simp)⟩ ⟨new_recs h2, (by rw [newL_len]; unfold maxLen; omega), (fun i r h => by simp at h), (by unfold maxLen; simp), (fun i r h => by simp at h), (by unfold maxLen; simp)⟩
  simpa [wdV, newL_len] using h
theorem new_nil {w : World} {B g k cap : Nat} {n : Int} (h : w.ownsRow B 51 18 (.slice (some ⟨g, 0, none⟩) k cap) k (newC k n)) : ∃ C, Blk w g C 51 ∧ C.size = cap * 18 ∧ k ≤ cap ∧ NilRow C k := by
  have hcell := fun j hj => h.cellAt j hj
  obtain ⟨e1, e2⟩ := h
  rcases e2 with ⟨e2, _⟩ | ⟨g0, c0, cur, e3, e4, e5, e6, e7, e8, e9⟩
  · cases e2
  · simp only [Value.slice.injEq, Option.some.injEq, Addr.mk.injEq, and_true, true_and] at e3
    obtain ⟨rfl, rfl⟩ := e3
    refine ⟨cur, e5, e8, e6, fun i hi => ?_⟩
    have hb : Blk w g cur 51 := e5
    have get : ∀ j, j < 18 → cur[i * 18 + j]? = (newV ((i : Int) + 1) n).toList[j]? := fun j hj => by
      rw [← hb.cell, hcell (i * 18 + j) (by omega), newC_at k n i j hi hj]
    exact ⟨get 5 (by omega), get 8 (by omega), get 9 (by omega), get 10 (by omega), get 14 (by omega), get 15 (by omega), get 16 (by omega)⟩
theorem own_only {w w' : World} {g B b k c : Nat} {xs : List Value} (hO : OnlyN w w' g) (h : w.ownsRow B 51 18 (.slice (some ⟨b, 0, none⟩) k c) k xs) (hne : b ≠ g) : w'.ownsRow B 51 18 (.slice (some ⟨b, 0, none⟩) k c) k xs := by
  obtain ⟨e1, e2⟩ := h
  refine ⟨e1, e2.imp id ?_⟩
  rintro ⟨g0, c0, cur, e3, e4, e5, e6⟩
  simp only [Value.slice.injEq, Option.some.injEq, Addr.mk.injEq, and_true, true_and] at e3
  obtain ⟨rfl, rfl⟩ := e3
  exact ⟨b, c, cur, rfl, e4, (hO.block b (Array.getElem?_eq_some_iff.1 e5).1 hne).trans e5, e6⟩

set_option maxHeartbeats 8000000 in
set_option maxRecDepth 20000 in
theorem walk (n : Int) (w : World) :
    Calls Try.prog 3 #[.int .i64 n] w fun e w' => e = .returned (.bool true) ∧ Below w.heap.size w w' := by
  go_enter Try.func3, Try.ntmps3
  go_wp2_with fail
  refine (specNewWorld n w).mono ?_
  rintro e w1 ⟨hb1, ⟨hz, rfl⟩ | ⟨hz, k, g1, c1, hn, hk1, hk5, rfl, ho1⟩⟩
  · go_wp2_with fail
    refine (implNewWorld n _).mono ?_
    rintro e w2 ⟨hb2, ⟨_, rfl⟩ | ⟨hz', _⟩⟩
    rotate_left
    · rw [hz] at hz'; cases hz'
    have B2 := ext_trans (ext_alloc hb1 _) hb2
    have k1 : Blk w2 w1.heap.size #[.slice none 0 0, .slice none 0 0, .slice none 0 0] 26 := (Blk.new _ _ _).ext hb2
    have k2 := Blk.new w2 #[.slice none 0 0, .slice none 0 0, .slice none 0 0] 26
    have k1c := (k1.alloc (.cells #[.slice none 0 0, .slice none 0 0, .slice none 0 0] 26)).cell
    go_wp2_with fail
    refine (eq_nil _).mono ?_
    rintro e w3 ⟨rfl, hb3⟩
    have j1 := (k1.alloc _).ext hb3
    have j2 := k2.ext hb3
    have B3 := ext_trans (ext_alloc B2 _) hb3
    have c2 := j2.cell
    clear k1 k2 k1c hb1 hb2 B2 hb3
    go_wp2_with fail
    refine (markW_nil _).mono ?_
    rintro e w4 ⟨rfl, hb4⟩
    have c4 := (j2.ext hb4).cell
    clear c2
    go_wp2_with fail
    refine (heldW_nil _).mono ?_
    rintro e w5 ⟨rfl, hb5⟩
    have B5 := ext_trans B3 (ext_trans hb4 hb5)
    have i1 := j1.ext (ext_trans hb4 hb5)
    have i2 := j2.ext (ext_trans hb4 hb5)
    clear c4 j1 j2 B3 hb4 hb5
    go_wp2_with fail
    refine (implNewWorld n _).mono ?_
    rintro e w6 ⟨hb6, ⟨_, rfl⟩ | ⟨hz', _⟩⟩
    rotate_left
    · rw [hz] at hz'; cases hz'
    have k1 := (i1.ext hb6).alloc (.cells #[.slice none 0 0, .slice none 0 0, .slice none 0 0] 26)
    have k2 := (i2.ext hb6).alloc (.cells #[.slice none 0 0, .slice none 0 0, .slice none 0 0] 26)
    have k1c := k1.cell
    have B6 := ext_alloc (ext_trans B5 hb6) (.cells #[.slice none 0 0, .slice none 0 0, .slice none 0 0] 26)
    clear i1 i2 B5 hb6
    go_wp2_with fail
    refine (eq_nil _).mono ?_
    rintro e w7 ⟨rfl, hb7⟩
    have c7 := (k2.ext hb7).cell
    clear k1c
    go_wp2_with fail
    refine (heldW_nil _).mono ?_
    rintro e w8 ⟨rfl, hb8⟩
    go_wp2_with fail
    go_ret
    exact ⟨rfl, ext_trans B6 (ext_trans hb7 hb8)⟩
  · have HN0 : Hid (n = (k : Int)) := hn
    clear hn
    have ho1' := ho1.alloc (.cells #[.slice (some ⟨g1, 0, none⟩) k c1, .slice none 0 0, .slice none 0 0] 26)
    go_wp2_with fail
    refine (implNewWorld n _).mono ?_
    rintro e w2 ⟨hb2, ⟨hz', _⟩ | ⟨_, k', g2, c2, hn', _, _, rfl, ho2⟩⟩
    · rw [hz] at hz'; cases hz'
    obtain rfl : k' = k := by have := HN0.out; omega
    have HN : Hid (n = (k' : Int)) := HN0.out
    clear hn'
    have B2 := ext_trans (ext_alloc hb1 _) hb2
    have k1 : Blk w2 w1.heap.size #[.slice (some ⟨g1, 0, none⟩) k' c1, .slice none 0 0, .slice none 0 0] 26 := (Blk.new _ _ _).ext hb2
    have k2 := Blk.new w2 #[.slice (some ⟨g2, 0, none⟩) k' c2, .slice none 0 0, .slice none 0 0] 26
    have k1a := k1.alloc (.cells #[.slice (some ⟨g2, 0, none⟩) k' c2, .slice none 0 0, .slice none 0 0] 26)
    have k1c := k1a.cell
    have o1 := (own_ext' ho1' hb2).alloc (.cells #[.slice (some ⟨g2, 0, none⟩) k' c2, .slice none 0 0, .slice none 0 0] 26)
    have o2 := ho2.alloc (.cells #[.slice (some ⟨g2, 0, none⟩) k' c2, .slice none 0 0, .slice none 0 0] 26)
    have hg1 : g1 < w1.heap.size := (ho1.lt g1 rfl).2
    have hg2 : w1.heap.size + 1 ≤ g2 ∧ g2 < w2.heap.size := by have := ho2.lt g2 rfl; simpa using this
    have hw9 := hb1.size
    clear k1 ho1 ho1' ho2 hb1 hb2
    go_wp2_with fail
    refine (eq_new hk5 o2 o1).mono ?_
    rintro e w3 ⟨rfl, hb3⟩
    have j1 := k1a.ext hb3
    have j2 := k2.ext hb3
    have p1 := own_ext' o1 hb3
    have p2 := own_ext' o2 hb3
    have B3 := ext_trans (ext_alloc B2 _) hb3
    have c3 := j2.cell
    have hs3 := hb3.size
    simp only [World.size_alloc] at hs3
    have hw0 := B2.size
    clear k1a k2 k1c o1 o2 B2 hb3
    obtain ⟨C, hC, hCs, hCk, hCn⟩ := new_nil p2
    go_wp2_with fail
    refine (markW g2 k' c2 C _ hC hCs hCk hk5 hCn).mono ?_
    rintro e w4 ⟨rfl, ⟨D, hD, hDs, hDm⟩, hO⟩
    have i1 := hO.blk j1 (by omega)
    have i2 := hO.blk j2 (by omega)
    have q1 := own_only hO p1 (by omega)
    have hw1 := B3.size
    have B4 := hO.below B3 hw1 (by have := hg2.1; have := hw0; omega)
    have HM : Hid (MkTo D k') := hDm
    have c4 := i2.cell
    clear c3 j1 j2 p1 p2 B3 hC hCs hCk hCn hO hDm
    go_wp2_with fail
    refine (heldW g2 k' c2 D _ hD hk5 HM.out).mono ?_
    rintro e w5 ⟨rfl, hb5⟩
    have j1 := i1.ext hb5
    have j2 := i2.ext hb5
    have r1 := own_ext' q1 hb5
    have hD5 := hD.ext hb5
    have B5 := ext_trans B4 hb5
    clear c4 i1 i2 q1 hD B4 hb5
    go_wp2_with fail
    refine (implNewWorld n _).mono ?_
    rintro e w6 ⟨hb6, ⟨hz', _⟩ | ⟨_, k'', g6, c6, hn', _, _, rfl, ho6⟩⟩
    · rw [hz] at hz'; cases hz'
    obtain rfl : k'' = k' := by have := HN.out; omega
    clear hn'
    have k1 := (j1.ext hb6).alloc (.cells #[.slice (some ⟨g6, 0, none⟩) k'' c6, .slice none 0 0, .slice none 0 0] 26)
    have k2 := (j2.ext hb6).alloc (.cells #[.slice (some ⟨g6, 0, none⟩) k'' c6, .slice none 0 0, .slice none 0 0] 26)
    have s1 := (own_ext' r1 hb6).alloc (.cells #[.slice (some ⟨g6, 0, none⟩) k'' c6, .slice none 0 0, .slice none 0 0] 26)
    have s6 := ho6.alloc (.cells #[.slice (some ⟨g6, 0, none⟩) k'' c6, .slice none 0 0, .slice none 0 0] 26)
    have hD6 := (hD5.ext hb6).alloc (.cells #[.slice (some ⟨g6, 0, none⟩) k'' c6, .slice none 0 0, .slice none 0 0] 26)
    have B6 := ext_alloc (ext_trans B5 hb6) (.cells #[.slice (some ⟨g6, 0, none⟩) k'' c6, .slice none 0 0, .slice none 0 0] 26)
    have k1c := k1.cell
    clear j1 j2 r1 ho6 hD5 B5 hb6
    go_wp2_with fail
    refine (eq_new hk5 s6 s1).mono ?_
    rintro e w7 ⟨rfl, hb7⟩
    have c7 := (k2.ext hb7).cell
    clear k1c
    go_wp2_with fail
    refine (heldW g2 k'' c2 D _ (hD6.ext hb7) hk5 HM.out).mono ?_
    rintro e w8 ⟨rfl, hb8⟩
    go_wp2_with fail
    go_ret
    exact ⟨rfl, ext_trans B6 (ext_trans hb7 hb8)⟩

set_option maxRecDepth 100000 in
theorem lifted (os : Os) (started : os.Started) (H : Type) (enc : TypeId × Value → H) :
    ReturnsInHanded {} Try.checked os 3 .any (Rows.fnExactRecNewWorldSpec.pre6 enc Try.prog Try.f3 Rows.fnExactRecNewWorldRow.domain false) (Rows.fnExactRecNewWorldSpec.post enc Try.prog Try.f3 false true false false) := by
  refine returnsInHanded_of_change (C := Try.checked) own started (by kernel_rfl) Try.func3
    (ChangeSpec.witness6 (enc := enc) (C := Try.checked) false ⟨#[], #[.int .i64 0], []⟩ 8 (by kernel_rfl) (by kernel_rfl) (by kernel_rfl) (by kernel_rfl)) ?_
  intro W base args ds gs before hval0 hW hcnd _
  have hval : ∀ (j : Nat) t v, Try.f3.params[j]? = some t → args[j]? = some v → Value.okWide Try.prog W .any base t v := hval0
  have hW' := hW
  obtain ⟨p, q, hA0, hV, rfl, hfz, hnd⟩ := hW
  have hA : DataW.TrodAll enc Try.prog W 0 (fun _ => true) true Try.f3.params.toList args.toList ds p := hA0
  rw [Try.params3] at hA hval
  obtain ⟨v0, vs0, d0, ds0, p0, q0, hargs, rfl, rfl, h0, r0⟩ := trodAll_cons hA
  obtain ⟨rfl, rfl, rfl⟩ := trodAll_nil r0
  obtain rfl : args = #[v0] := by cases args; simp_all
  obtain ⟨rfl, rfl⟩ := trodVars_none hV
  have k0 := h0
  have lt0 : ∀ x ∈ p0, x.block < W.heap.size := by obtain ⟨m, hm⟩ := k0; exact DataW.trod_lt m _ _ _ hm
  obtain ⟨x, rfl, rfl, rfl, wx⟩ := open_int Try.underlying3 (hval 0 3 v0 rfl rfl) h0
  clear hA0 hval0
  refine (walk x W).mono fun e W' ⟨he, bel⟩ => ?_
  subst he
  exact ⟨_, rfl, _, _, _, [], _, [], hW', trodAll_mk1 (shut_bool Try.underlying4 _), (trodAll_cons_mk (Below.trod laidOut (by kernel_rfl) (of_decide_eq_true (by kernel_rfl)) k0 bel lt0) trodAll_mk0), rfl, bel.frame _, fun h => by cases h⟩

theorem over : Rows.fnExactRecNewWorldRow.holds Try.pinned (OpenSpec.ofChange Rows.fnExactRecNewWorldSpec) :=
  OpenClaim.holds_of_wide 3 Try.f3 rfl rfl rfl rfl rfl rfl rfl ⟨rfl, rfl, rfl, rfl, rfl⟩ rfl rfl rfl rfl rfl (by kernel_rfl) Try.func3 (by kernel_rfl)
    (of_decide_eq_true (by kernel_rfl)) (by unfold Func.isWrapper; first | (rw [if_pos (by decide +kernel)]; kernel_rfl) | (rw [if_neg (by decide +kernel)]; exact ⟨rfl, rfl⟩))
    (fun os started H enc _ => lifted os started H enc)

/-- THE STATEMENT -/
theorem proved : Rows.FnExactRecNewWorldSaid := over
#print axioms proved
end Go.Proofs.Ytgjommccflfjaaa.fnExactRecNewWorld
