/-
  spec.RecMerge: at every two lists in blocks of their own.
-/
import Derived.Test.YtffklmlljekceaaGreatMergeL
import Derived.WalkSmall
namespace Go.Proofs.YtffklmlljekceaaGreat
open Go.ChangeShapes Go.WideShapes Go.ChangeAt Go.RowKit
set_option linter.unusedVariables false
set_option linter.unusedSimpArgs false

theorem slotInfo : ∃ i, Tryz.prog.info? 108 = some i ∧ i.zero = some (.agg #[.int .i64 0, .string ⟨#[]⟩]) ∧ i.size = 2 ∧ i.bytes = 24 := info_parts (by kernel_rfl)
/-- slots are put behind slots that the call owns -/
theorem wpList_append_slots {ops : Array Oper} {rest : List Oper} {dst : Option Tmp} {s x : Operand} {τ : TypeId} {pos : String} {after : Array Edge} {a : Act} {w : World} {Q : Exit → Act → World → Prop}
    (B : Nat) (v : Value) (l1 l2 : List Sl) (n m c : Nat) (ad : Addr) (hs : a.eval s = v) (hx : a.eval x = .slice (some ad) m c) (hown : w.ownsRow B 108 2 v n (flat l1)) (hm : l2.length = m)
    (hnews : ∀ j u, (flat l2)[j]? = some u → w.cell? (ad.add j) = some u) (hN : n + m ≤ 4194304) (hB : B ≤ w.heap.size)
    (h : ∀ v' w', w'.ownsRow B 108 2 v' (n + m) (flat (l1 ++ l2)) → w.grownBy w' v.ownBlock → (v' = .slice none 0 0 ↔ v = .slice none 0 0 ∧ m = 0) → wpList Tryz.prog ops Q rest (a.put dst v') w') :
    wpList Tryz.prog ops Q ({ dst := dst, op := .call { callee := .builtin .append, args := #[s, x], argTypes := #[35, 35] }, type := τ, pos := pos, after := after, guard := none } :: rest) a w := by
  obtain ⟨i, h1, h2, h3, h4⟩ := slotInfo
  refine wpList_append_own_wide w rfl s x 35 rfl B 108 i (.agg #[.int .i64 0, .string ⟨#[]⟩]) 2 24 Tryz.underlying35 h1 h2 h3 h4 rfl (by omega) v n (flat l1) hs hown ad m c (flat l2) hx (by rw [flat_len, hm]) hnews (flat_one l2) (by unfold maxLen; omega) (by omega) hB ?_
  intro v' w' q1 q2 q3
  exact h v' w' (by rw [flat_app]; exact q1) q2 q3
theorem blk_news {w : World} {g : Nat} {cs : List Value} {t : TypeId} (h : Blk w g cs.toArray t) : ∀ j u, cs[j]? = some u → w.cell? ((⟨g, 0, none⟩ : Addr).add j) = some u := fun j u hu => by
  rw [show (⟨g, 0, none⟩ : Addr).add j = ⟨g, j, none⟩ by unfold Addr.add; split <;> simp_all]
  rw [h.cell, List.getElem?_toArray]; exact hu
theorem ext_grown {a b c : World} {row : Option Nat} (h : Below a.heap.size a b) (k : b.grownBy c row) (hr : ∀ j, row = some j → a.heap.size ≤ j) : Below a.heap.size a c :=
  h.trans ⟨k.os, k.tape, k.output, k.size, fun i hi => k.block i (Nat.lt_of_lt_of_le hi h.size) (fun e => by have := hr i e.symm; omega)⟩
theorem own_none (w : World) (e : TypeId) (size : Nat) : (w.alloc (.cells #[] e)).ownsRow w.heap.size e size (.slice (some ⟨w.heap.size, 0, none⟩) 0 0) 0 (flat []) :=
  ⟨by simp [flat], .inr ⟨w.heap.size, 0, #[], rfl, Nat.le_refl _, heap_alloc_new w _, Nat.le_refl _, by unfold maxLen; omega, by simp, by simp [flat]⟩⟩
theorem own_form {w : World} {B n : Nat} {e : TypeId} {v : Value} {xs : List Value} (h : w.ownsRow B e 2 v n xs) (hv : v ≠ .slice none 0 0) : ∃ g cap, v = .slice (some ⟨g, 0, none⟩) n cap ∧ B ≤ g ∧ g < w.heap.size ∧ n ≤ cap := by
  rcases h.2 with ⟨h0, _⟩ | ⟨g, cap, cur, rfl, hb, hg, hn, _⟩
  · exact absurd h0 hv
  · exact ⟨g, cap, rfl, hb, (Array.getElem?_eq_some_iff.1 hg).1, hn⟩

set_option maxHeartbeats 2000000 in
theorem l1Slots_any (g : Nat) (l : List Sl) (n : Nat) (w : World) (hn : l.length = n) (hc : n ≤ 1048576) (h : Blk w g (flat l).toArray 108) :
    Calls Tryz.prog 77 #[.slice (some ⟨g, 0, none⟩) n n] w fun e w' => ∃ g' cap, e = .returned (.slice (some ⟨g', 0, none⟩) n cap) ∧ w.heap.size ≤ g' ∧ w'.ownsRow w.heap.size 108 2 (.slice (some ⟨g', 0, none⟩) n cap) n (flat l) ∧ Below w.heap.size w w' := by
  have HL : Hid (l.length = n) := hn
  have HN := hid (blk_news (h.alloc (.cells #[] 108)))
  have HO := hid (own_none w 108 2)
  clear hn h
  go_enter Tryz.func77, Tryz.ntmps77
  go_wp2_with ((with_reducible refine wpList_append_slots w.heap.size (.slice (some ⟨w.heap.size, 0, none⟩) 0 0) [] l 0 n n ⟨g, 0, none⟩ ?_ ?_ ?_ ?_ ?_ ?_ ?_ ?_); (· rfl); (· rfl); (· exact HO.out); (· exact HL.out); (· exact HN.out); (· omega); (· simp); intro v' w' q1 q2 q3; have Q1 := hid q1; have Q2 := hid q2; have Q3 := hid q3; clear q1 q2 q3)
  go_ret
  obtain ⟨g', cap, rfl, hb, _⟩ := own_form Q1.out (fun e => by have := (Q3.out.1 e).1; simp at this)
  exact ⟨g', cap, by simp, hb, by simpa using Q1.out, ext_grown (ext_alloc (Below.refl _ _) _) Q2.out (fun j hj => by simp [Value.ownBlock] at hj; omega)⟩

set_option maxHeartbeats 4000000 in
theorem specMerge (g1 g2 : Nat) (l1 l2 : List Sl) (n1 n2 : Nat) (w : World) (hn1 : l1.length = n1) (hn2 : l2.length = n2) (hc1 : n1 ≤ 1048576) (hc2 : n2 ≤ 1048576) (h1 : Blk w g1 (flat l1).toArray 108) (h2 : Blk w g2 (flat l2).toArray 108) :
    Calls Tryz.prog 113 #[.slice (some ⟨g1, 0, none⟩) n1 n1, .slice (some ⟨g2, 0, none⟩) n2 n2] w fun e w' => ∃ g cap, e = .returned (.slice (some ⟨g, 0, none⟩) (max n1 n2) cap) ∧ w.heap.size ≤ g ∧ w'.ownsRow w.heap.size 108 2 (.slice (some ⟨g, 0, none⟩) (max n1 n2) cap) (max n1 n2) (flat (mergeL l1 l2)) ∧ Below w.heap.size w w' := by
  have HL : Hid (l1.length = n1 ∧ l2.length = n2) := ⟨hn1, hn2⟩
  have HB2 := hid h2
  clear hn1 hn2 h2
  go_enter Tryz.func113, Tryz.ntmps113
  go_wp2_with fail
  refine (l1Slots_any g1 l1 n1 _ HL.out.1 hc1 h1).mono ?_
  rintro e w1 ⟨g0, cap0, rfl, hg0, hown0, hb0⟩
  have HO := hid hown0
  have HBel := hid hb0
  clear hown0 hb0 h1
  go_wp2_with fail
  go_loopw [5, 6] (fun v i wr => ∃ (k g cap : Nat), k ≤ n2 ∧ i = .int .i64 k ∧ v = .slice (some ⟨g, 0, none⟩) (max n1 k : Nat) cap ∧ w.heap.size ≤ g ∧ wr.ownsRow w.heap.size 108 2 (.slice (some ⟨g, 0, none⟩) (max n1 k : Nat) cap) (max n1 k : Nat) (flat (mergeL l1 (l2.take k))) ∧ Below w.heap.size w wr) (fun _ i _ => n2 - (intOf i).toNat)
  case atStart => exact ⟨0, g0, cap0, Nat.zero_le _, rfl, by rw [Nat.max_eq_left (Nat.zero_le _)], hg0, by rw [Nat.max_eq_left (Nat.zero_le _), List.take_zero, mergeL_nil]; exact HO.out, HBel.out⟩
  case round =>
    obtain ⟨k, g, cap, hk, rfl, rfl, hg, hown, hbel⟩ := hrel
    have HW := hid hown
    have HBe := hid hbel
    clear hown hbel HO HBel
    by_cases hlt : k < n2
    · obtain ⟨y, hy0⟩ : ∃ s, l2[k]? = some s := ⟨_, List.getElem?_eq_getElem (by rw [HL.out.2]; exact hlt)⟩
      have hy := hid hy0
      have b2 := HB2.out.ext HBe.out
      have c0 : wr.cell? ⟨g2, k * 2, none⟩ = some (.int .i64 y.1) := by rw [b2.cell, List.getElem?_toArray]; exact (flat_at l2 k y hy0).1
      have c1 : wr.cell? ⟨g2, k * 2 + 1, none⟩ = some (.string y.2) := by rw [b2.cell, List.getElem?_toArray]; exact (flat_at l2 k y hy0).2
      clear hy0 b2
      have e1 : (0 : Int) ≤ (k : Int) := by omega
      have e2 : (k : Int) < (n2 : Int) := by omega
      by_cases hkn : n1 ≤ k
      · have hm : max n1 k = k := Nat.max_eq_right hkn
        rw [hm] at HW ⊢
        have NEWS := hid (blk_news (show Blk (wr.alloc (.cells #[.int .i64 y.1, .string y.2] 108)) wr.heap.size (flat [y]).toArray 108 from Blk.new wr _ _))
        have HSZ := hid (show w.heap.size ≤ (wr.alloc (.cells #[.int .i64 y.1, .string y.2] 108)).heap.size from Nat.le_trans HBe.out.size (by simp))
        go_wp2_with ((with_reducible refine wpList_append_slots w.heap.size (.slice (some ⟨g, 0, none⟩) k cap) (mergeL l1 (l2.take k)) [y] k 1 1 ⟨wr.heap.size, 0, none⟩ ?_ ?_ ?_ ?_ ?_ ?_ ?_ ?_); (· rfl); (· rfl); (· exact HW.out.alloc _); (· rfl); (· exact NEWS.out); (· omega); (· exact HSZ.out); intro v' w' q1 q2 q3; have Q1 := hid q1; have Q2 := hid q2; have Q3 := hid q3; clear q1 q2 q3)
        obtain ⟨g', cap', rfl, hb, _⟩ := own_form Q1.out (fun e => by have := (Q3.out.1 e).1; simp at this)
        go_roundw
        case rel =>
          refine ⟨k + 1, g', cap', by omega, by go_num, by rw [Nat.max_eq_right (by omega)], hb, ?_, ext_grown (ext_alloc HBe.out _) Q2.out (fun j hj => by simp [Value.ownBlock] at hj; omega)⟩
          rw [Nat.max_eq_right (by omega), mergeL_app (by rw [HL.out.1]; exact hkn) hy.out]
          exact Q1.out
        case measure => simp [intOf]; omega
      · have hm : max n1 k = n1 := Nat.max_eq_left (by omega)
        rw [hm] at HW ⊢
        obtain ⟨x, hx0⟩ : ∃ s, l1[k]? = some s := ⟨_, List.getElem?_eq_getElem (by rw [HL.out.1]; omega)⟩
        have hx := hid hx0
        have hf := flat_at _ k x (mergeL_old (b := l2) hx0)
        have d0 : wr.cell? ⟨g, k * 2, none⟩ = some (.int .i64 x.1) := (HW.out.cellAt (k * 2) (by omega)).trans hf.1
        have d1 : wr.cell? ⟨g, k * 2 + 1, none⟩ = some (.string x.2) := (HW.out.cellAt (k * 2 + 1) (by omega)).trans hf.2
        have ff := HW.out.frozenAt
        have e3 : (k : Int) < (n1 : Int) := by omega
        have e4 : ¬ (k : Int) = (n1 : Int) := by omega
        have e5 : ¬ k = n1 := by omega
        clear hx0 hf
        by_cases hxy : x.1 < y.1
        · go_wp2_with fail
          go_quiet (fail)
          go_wp2
          go_roundw
          case rel =>
            refine ⟨k + 1, g, cap, by omega, by go_num, by rw [Nat.max_eq_left (by omega)], hg, ?_, (((below_drewN HBe.out _).setCell hg _).setCell hg _)⟩
            rw [Nat.max_eq_left (by omega), mergeL_set hx.out hy.out hxy, flat_set]
            exact (World.ownsRow.stored (World.ownsRow.stored (show (wr.drewN _).ownsRow _ _ _ _ _ _ from HW.out) (k * 2) _).1 (k * 2 + 1) _).1
          case measure => simp [intOf]; omega
        · go_wp2_with fail
          go_quiet (fail)
          go_wp2
          go_roundw
          case rel =>
            refine ⟨k + 1, g, cap, by omega, by go_num, by rw [Nat.max_eq_left (by omega)], hg, ?_, below_drewN HBe.out _⟩
            rw [Nat.max_eq_left (by omega), mergeL_keep hx.out hy.out (by omega)]
            exact HW.out
          case measure => simp [intOf]; omega
    · go_wp2
      go_ret
      have hkk : k = n2 := by omega
      subst hkk
      refine ⟨g, cap, rfl, hg, ?_, HBe.out⟩
      have := HW.out
      rw [mergeL_full l1 l2 (by rw [HL.out.2]; omega)] at this
      exact this
end Go.Proofs.YtffklmlljekceaaGreat
