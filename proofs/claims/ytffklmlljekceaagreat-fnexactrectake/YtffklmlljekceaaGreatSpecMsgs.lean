/-
  The specification's copy of messages: spec.l2Messages.
-/
import Derived.Test.YtffklmlljekceaaGreatSpecCopy
namespace Go.Proofs.YtffklmlljekceaaGreat
open Go.ChangeShapes Go.WideShapes Go.ChangeAt Go.RowKit
set_option linter.unusedVariables false
set_option linter.unusedSimpArgs false

/-- the inner lists' slices are nil with no room, or point plainly -/
def MsgsPlain (w : World) (a : Option Addr) (l : List Ms) : Prop := ∀ (i b off : Nat) (s : Ms) (sa : Option Addr) (m cap : Nat), l[i]? = some s → a = some ⟨b, off, none⟩ → w.cell? ⟨b, off + i * 8 + 7, none⟩ = some (.slice sa m cap) → (sa = none → cap = 0) ∧ ∀ x, sa = some x → x.spot = none
/-- messages as cells of one row, their slots in rows of their own -/
def MsgCells (B : Nat) (w : World) (cells : List Value) (l : List Ms) : Prop :=
  cells.length = l.length * 8 ∧ ∀ (i : Nat) s, l[i]? = some s → ∃ g cap, cells[i * 8]? = some (.int .i64 s.1.k) ∧ cells[i * 8 + 1]? = some (.int .i64 s.1.f) ∧ cells[i * 8 + 2]? = some (.int .i64 s.1.t) ∧ cells[i * 8 + 3]? = some (.int .i64 s.1.b) ∧ cells[i * 8 + 4]? = some (.int .i64 s.1.i) ∧ cells[i * 8 + 5]? = some (.int .i64 s.1.n) ∧ cells[i * 8 + 6]? = some (.string s.1.x) ∧ cells[i * 8 + 7]? = some (.slice (some ⟨g, 0, none⟩) s.2.length cap) ∧
    w.ownsRow B 108 2 (.slice (some ⟨g, 0, none⟩) s.2.length cap) s.2.length (flat s.2)
theorem own_ext' {w w' : World} {B n k : Nat} {e : TypeId} {v : Value} {xs : List Value} (h : w.ownsRow B e k v n xs) (hb : Below w.heap.size w w') : w'.ownsRow B e k v n xs := by
  refine ⟨h.1, ?_⟩
  rcases h.2 with h0 | ⟨g, cap, cur, hv, hB, hg, r⟩
  · exact .inl h0
  · exact .inr ⟨g, cap, cur, hv, hB, (hb.block g (Array.getElem?_eq_some_iff.1 hg).1).trans hg, r⟩
theorem MsgCells.ext {B : Nat} {w w' : World} {cells : List Value} {l : List Ms} (h : MsgCells B w cells l) (hb : Below w.heap.size w w') : MsgCells B w' cells l :=
  ⟨h.1, fun i s hs => by
    obtain ⟨g, cap, c0, c1, c2, c3, c4, c5, c6, c7, ho⟩ := h.2 i s hs
    exact ⟨g, cap, c0, c1, c2, c3, c4, c5, c6, c7, own_ext' ho hb⟩⟩
theorem MsgCells.grown {B g0 : Nat} {w w' : World} {cells : List Value} {l : List Ms} {C : Array Value} (h : MsgCells B w cells l) (hg : w.grownBy w' (some g0)) (h0 : Blk w g0 C 45) : MsgCells B w' cells l :=
  ⟨h.1, fun i s hs => by
    obtain ⟨g, cap, c0, c1, c2, c3, c4, c5, c6, c7, ho⟩ := h.2 i s hs
    refine ⟨g, cap, c0, c1, c2, c3, c4, c5, c6, c7, ho.kept hg (.inr ?_)⟩
    intro e
    simp only [Value.ownBlock, Option.some.injEq] at e
    subst e
    rcases ho.2 with ⟨h1, _⟩ | ⟨g', cap', cur, hv, _, hb, _⟩
    · simp at h1
    · simp only [Value.slice.injEq, Option.some.injEq, Addr.mk.injEq, and_true, true_and] at hv
      obtain ⟨rfl, rfl⟩ := hv
      have h9 : Blk w g C 45 := h0
      unfold Blk at h9
      rw [hb] at h9
      simp at h9⟩
theorem MsgCells.snoc {B : Nat} {w : World} {cells : List Value} {l : List Ms} {s : Ms} {g cap : Nat} (h : MsgCells B w cells l) (ho : w.ownsRow B 108 2 (.slice (some ⟨g, 0, none⟩) s.2.length cap) s.2.length (flat s.2)) :
    MsgCells B w (cells ++ (msgV s.1 (.slice (some ⟨g, 0, none⟩) s.2.length cap)).toList) (l ++ [s]) := by
  have hl := h.1
  refine ⟨by simp [hl]; omega, fun i u hu => ?_⟩
  by_cases hi : i < l.length
  · rw [List.getElem?_append_left hi] at hu
    obtain ⟨g', cap', c0, c1, c2, c3, c4, c5, c6, c7, ho'⟩ := h.2 i u hu
    refine ⟨g', cap', ?_, ?_, ?_, ?_, ?_, ?_, ?_, ?_, ho'⟩
    all_goals (rw [List.getElem?_append_left (by omega)]; assumption)
  · have hi2 := (List.getElem?_eq_some_iff.1 hu).1
    simp at hi2
    have hik : i = l.length := by omega
    subst hik
    simp at hu
    subst hu
    refine ⟨g, cap, ?_, ?_, ?_, ?_, ?_, ?_, ?_, ?_, ho⟩
    all_goals (rw [List.getElem?_append_right (by omega), hl])
    · simp
    · rw [show l.length * 8 + 1 - l.length * 8 = 1 by omega]; rfl
    · rw [show l.length * 8 + 2 - l.length * 8 = 2 by omega]; rfl
    · rw [show l.length * 8 + 3 - l.length * 8 = 3 by omega]; rfl
    · rw [show l.length * 8 + 4 - l.length * 8 = 4 by omega]; rfl
    · rw [show l.length * 8 + 5 - l.length * 8 = 5 by omega]; rfl
    · rw [show l.length * 8 + 6 - l.length * 8 = 6 by omega]; rfl
    · rw [show l.length * 8 + 7 - l.length * 8 = 7 by omega]; rfl
theorem own_none8 (w : World) (e : TypeId) (size : Nat) : (w.alloc (.cells #[] e)).ownsRow w.heap.size e size (.slice (some ⟨w.heap.size, 0, none⟩) 0 0) 0 [] :=
  ⟨by simp, .inr ⟨w.heap.size, 0, #[], rfl, Nat.le_refl _, heap_alloc_new w _, Nat.le_refl _, by unfold maxLen; omega, by simp, by simp⟩⟩
theorem own_formk {w : World} {B n k : Nat} {e : TypeId} {v : Value} {xs : List Value} (h : w.ownsRow B e k v n xs) (hv : v ≠ .slice none 0 0) : ∃ g cap C, v = .slice (some ⟨g, 0, none⟩) n cap ∧ B ≤ g ∧ n ≤ cap ∧ Blk w g C e := by
  rcases h.2 with ⟨h0, _⟩ | ⟨g, cap, cur, rfl, hb, hg, hn, _⟩
  · exact absurd h0 hv
  · exact ⟨g, cap, cur, rfl, hb, hn, hg⟩

set_option maxHeartbeats 8000000 in
theorem l2Messages_at (a : Option Addr) (l : List Ms) (n cap : Nat) (w : World) (hn : l.length = n) (hc : n ≤ 1048576) (hsm : MsgsSmall l) (hpl : MsgsPlain w a l) (h : MsgsAt w a l) :
    Calls Tryz.prog 61 #[.slice a n cap] w fun e w' => ∃ g' cap' cells, e = .returned (.slice (some ⟨g', 0, none⟩) n cap') ∧ w.heap.size ≤ g' ∧ w'.ownsRow w.heap.size 45 8 (.slice (some ⟨g', 0, none⟩) n cap') n cells ∧ MsgCells w.heap.size w' cells l ∧ Below w.heap.size w w' := by
  have HL := hid hn
  have H := hid h
  have HP := hid hpl
  have HM := hid hsm
  have HO := hid (own_none8 w 45 8)
  clear hn h hpl hsm
  go_enter Tryz.func61, Tryz.ntmps61
  go_wp2
  go_loopw [3, 4] (fun v i wr => ∃ (k g cap : Nat) (cells : List Value), k ≤ n ∧ i = .int .i64 k ∧ v = .slice (some ⟨g, 0, none⟩) k cap ∧ w.heap.size ≤ g ∧ wr.ownsRow w.heap.size 45 8 (.slice (some ⟨g, 0, none⟩) k cap) k cells ∧ MsgCells w.heap.size wr cells (l.take k) ∧ Below w.heap.size w wr) (fun _ i _ => n - (intOf i).toNat)
  case atStart => exact ⟨0, w.heap.size, 0, [], Nat.zero_le _, rfl, rfl, Nat.le_refl _, HO.out, ⟨by simp, fun i s hs => by simp at hs⟩, ext_alloc (Below.refl _ _) _⟩
  case round =>
    obtain ⟨k, g, cp0, cells, hk, rfl, rfl, hg, hown, hmc, hbel⟩ := hrel
    have HW := hid hown
    have HC := hid hmc
    have HBe := hid hbel
    clear hown hmc hbel HO
    by_cases hlt : k < n
    · obtain ⟨s, hs0⟩ : ∃ s, l[k]? = some s := ⟨_, List.getElem?_eq_getElem (by rw [HL.out]; exact hlt)⟩
      have hs := hid hs0
      obtain ⟨b, off, sa, cp, e0, hb, c0, c1, c2, c3, c4, c5, c6, c7, q1, q2, q3⟩ := (H.out.ext HBe.out) k s hs0
      subst e0
      have hb2 : b < w.heap.size := by
        obtain ⟨b', off', _, _, e9, hb9, _⟩ := H.out k s hs0
        simp only [Option.some.injEq, Addr.mk.injEq, and_true] at e9
        omega
      have PL := hid (HP.out k b off s sa s.2.length cp hs0 rfl (by rw [← HBe.out.cell (p := ⟨b, off + k * 8 + 7, none⟩) hb2]; exact c7))
      have SM := hid (HM.out k s hs0)
      have Q3 := hid q3
      clear hs0 q3 q1 q2
      have e1 : (0 : Int) ≤ (k : Int) := by omega
      have e2 : (k : Int) < (n : Int) := by omega
      go_wp2_with fail
      refine (l2Message_at s.1 sa s.2 s.2.length cp _ rfl SM.out PL.out.1 PL.out.2 Q3.out).mono ?_
      rintro e z ⟨g', cap', rfl, hg', ho', hz⟩
      have NEWS := hid (blk_news (show Blk (z.alloc (.cells (msgV s.1 (.slice (some ⟨g', 0, none⟩) s.2.length cap')) 45)) z.heap.size ((msgV s.1 (.slice (some ⟨g', 0, none⟩) s.2.length cap')).toList).toArray 45 from Blk.new z _ _))
      have ZB := hid (ext_trans HBe.out hz)
      have ZW := hid ((own_ext' HW.out hz).alloc (.cells (msgV s.1 (.slice (some ⟨g', 0, none⟩) s.2.length cap')) 45))
      have ZC := hid (((HC.out.ext hz).ext (ext_alloc (Below.refl _ _) (.cells (msgV s.1 (.slice (some ⟨g', 0, none⟩) s.2.length cap')) 45))).snoc ((own_low ho' HBe.out.size).alloc (.cells (msgV s.1 (.slice (some ⟨g', 0, none⟩) s.2.length cap')) 45)))
      have SZ := hid (show w.heap.size ≤ (z.alloc (.cells (msgV s.1 (.slice (some ⟨g', 0, none⟩) s.2.length cap')) 45)).heap.size from Nat.le_trans ZB.out.size (by simp))
      clear hz ho' hg' c0 c1 c2 c3 c4 c5 c6 c7
      go_wp2_with ((with_reducible refine wpList_append_msgs w.heap.size (.slice (some ⟨g, 0, none⟩) k cp0) cells ((msgV s.1 (.slice (some ⟨g', 0, none⟩) s.2.length cap')).toList) k 1 1 ⟨z.heap.size, 0, none⟩ ?_ ?_ ?_ ?_ ?_ ?_ ?_ ?_ ?_); (· rfl); (· rfl); (· exact ZW.out); (· rfl); (· exact NEWS.out); (· intro u hu; simp at hu; rcases hu with rfl | rfl | rfl | rfl | rfl | rfl | rfl | rfl <;> rfl); (· omega); (· exact SZ.out); intro v' w' r1 r2 r3; have R1 := hid r1; have R2 := hid r2; have R3 := hid r3; clear r1 r2 r3)
      obtain ⟨g2, cap2, C2, rfl, hb9, hn9, _⟩ := own_formk R1.out (fun e => by have := (R3.out.1 e).1; simp at this)
      obtain ⟨g3, cap3, C3, e3, _, _, hblk⟩ := own_formk ZW.out (by simp)
      simp only [Value.slice.injEq, Option.some.injEq, Addr.mk.injEq, and_true, true_and] at e3
      go_roundw
      case rel =>
        refine ⟨k + 1, g2, cap2, _, by omega, by go_num, rfl, hb9, R1.out, ?_, ext_grown (ext_alloc ZB.out _) R2.out (fun j hj => by simp [Value.ownBlock] at hj; omega)⟩
        rw [show l.take (k + 1) = l.take k ++ [s] by rw [List.take_add_one, hs.out]; rfl]
        exact ZC.out.grown (by simpa [Value.ownBlock] using R2.out) (by rw [e3.1]; exact hblk)
      case measure => simp [intOf]; omega
    · have hkk : k = n := by omega
      subst hkk
      go_wp2
      go_ret
      have h9 := HC.out
      rw [List.take_of_length_le (by rw [HL.out]; omega)] at h9
      exact ⟨g, cp0, cells, rfl, hg, HW.out, h9, HBe.out⟩
end Go.Proofs.YtffklmlljekceaaGreat
