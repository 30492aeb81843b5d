/-
  The specification's copy of messages, their places told apart: spec.l2Messages.
-/
import Derived.Test.YtafolmhpdgpmaaaApps
import Derived.Test.YtafolmhpdgpmaaaCopyRec
namespace Go.Proofs.Ytafolmhpdgpmaaa
open Go.ChangeShapes Go.WideShapes Go.ChangeAt Go.RowKit
set_option linter.unusedVariables false
set_option linter.unusedSimpArgs false

theorem RowZ.kept {lo hi hi' g : Nat} {w w' : World} {e e' : TypeId} {k : Nat} {a : Option Addr} {n c : Nat} {xs : List Value} {C : Array Value} (h : RowZ lo hi w e k a n c xs) (hg : w.grownBy w' (some g)) (hb : Blk w g C e') (hne : e ≠ e') (hh : hi ≤ hi') : RowZ lo hi' w' e k a n c xs := by
  refine ⟨h.own.kept hg ?_, fun x hx => Nat.lt_of_lt_of_le (h.hi x hx) hh⟩
  rcases h.own.2 with ⟨h1, _⟩ | ⟨g1, cap, cur, hv, _, hb1, _⟩
  · rw [h1]; exact .inl rfl
  · refine .inr fun e9 => ?_
    rw [hv] at e9
    simp only [Value.ownBlock, Option.some.injEq] at e9
    subst e9
    have h9 : Blk w g1 C e' := hb
    unfold Blk at h9
    rw [hb1] at h9
    simp only [Option.some.injEq, Obj.cells.injEq] at h9
    exact hne h9.2.1
theorem InnZM.kept {lo hi hi' g : Nat} {w w' : World} {H : List Mp} {C : Array Value} (h : InnZM lo hi w H) (hg : w.grownBy w' (some g)) (hb : Blk w g C 109) (hh : hi ≤ hi') : InnZM lo hi' w' H :=
  ⟨fun m hm => (h.row m hm).kept hg hb (by decide) hh, h.apart⟩
theorem InnZA.kept {lo hi hi' g : Nat} {w w' : World} {H : List Ap} {C : Array Value} (h : InnZA lo hi w H) (hg : w.grownBy w' (some g)) (hb : Blk w g C 114) (hh : hi ≤ hi') : InnZA lo hi' w' H :=
  ⟨fun m hm => (h.row m hm).kept hg hb (by decide) hh, h.apart⟩
/-- rows of different types lie in different blocks -/
theorem RowZ.ne {lo hi lo' hi' : Nat} {w : World} {e e' : TypeId} {k k' : Nat} {a a' : Option Addr} {n c n' c' : Nat} {xs xs' : List Value} (h : RowZ lo hi w e k a n c xs) (h' : RowZ lo' hi' w e' k' a' n' c' xs') (hne : e ≠ e') : ∀ x x', a = some x → a' = some x' → x.block ≠ x'.block := fun x x' hx hx' he => by
  rcases h.own.2 with ⟨h1, _⟩ | ⟨g1, cap, cur, hv, _, hb1, _⟩
  · simp only [Value.slice.injEq] at h1; rw [h1.1] at hx; simp at hx
  rcases h'.own.2 with ⟨h1, _⟩ | ⟨g2, cap2, cur2, hv2, _, hb2, _⟩
  · simp only [Value.slice.injEq] at h1; rw [h1.1] at hx'; simp at hx'
  simp only [Value.slice.injEq] at hv hv2
  rw [hv.1] at hx
  rw [hv2.1] at hx'
  simp only [Option.some.injEq] at hx hx'
  rw [← hx, ← hx'] at he
  dsimp only at he
  rw [he, hb2] at hb1
  simp only [Option.some.injEq, Obj.cells.injEq] at hb1
  exact hne hb1.2.1.symm
theorem msgs_plain {B : Nat} {w : World} {col : Nat → Nat} {t u : Nat} {a : Option Addr} {n c : Nat} {H : List Mp} {l : List Ms} (h : RowC B w col t 109 8 a n c (flatM H)) (hm : H.map (·.1) = l) (hi : InnM B w col u H) : MsgsPlain w a l := fun i b off s sa m cap hs ha hc => by
  rw [← hm, List.getElem?_map, Option.map_eq_some_iff] at hs
  obtain ⟨q, h0, rfl⟩ := hs
  obtain ⟨g, e0, _, c7, _⟩ := h.cellM h0 (q := 7) (by omega) rfl
  rw [ha] at e0
  simp only [Option.some.injEq, Addr.mk.injEq, and_true] at e0
  obtain ⟨rfl, rfl⟩ := e0
  rw [Nat.zero_add, c7] at hc
  simp only [Option.some.injEq, Value.slice.injEq] at hc
  obtain ⟨rfl, _, rfl⟩ := hc
  exact (hi.row q (List.mem_of_getElem? h0)).plain

set_option maxHeartbeats 8000000 in
theorem l2MsgsZ (a : Option Addr) (l : List Ms) (n cap : Nat) (w : World) (hn : l.length = n) (hc : n ≤ 1048576) (hsm : MsgsSmall l) (hpl : MsgsPlain w a l) (h : MsgsAt w a l) :
    Calls Try.prog 78 #[.slice a n cap] w fun e w' => ∃ g' cap' H', e = .returned (.slice (some ⟨g', 0, none⟩) n cap') ∧ RowZ w.heap.size w'.heap.size w' 109 8 (some ⟨g', 0, none⟩) n cap' (flatM H') ∧ H'.map (·.1) = l ∧ InnZM w.heap.size w'.heap.size w' H' ∧ Below w.heap.size w w' := by
  have HL := hid hn
  have H := hid h
  have HP := hid hpl
  have HM := hid hsm
  have HO := hid (own_none8 w 109 8)
  clear hn h hpl hsm
  go_enter Try.func78, Try.ntmps78
  go_wp2
  go_loopw [3, 4] (fun v i wr => ∃ (k g cap : Nat) (H' : List Mp), k ≤ n ∧ i = .int .i64 k ∧ v = .slice (some ⟨g, 0, none⟩) k cap ∧ wr.ownsRow w.heap.size 109 8 (.slice (some ⟨g, 0, none⟩) k cap) k (flatM H') ∧ H'.map (·.1) = l.take k ∧ InnZM w.heap.size wr.heap.size wr H' ∧ Below w.heap.size w wr) (fun _ i _ => n - (intOf i).toNat)
  case atStart => exact ⟨0, w.heap.size, 0, [], Nat.zero_le _, rfl, rfl, HO.out, by simp, InnZM.nil _ _ _, ext_alloc (Below.refl _ _) _⟩
  case round =>
    obtain ⟨k, g, cp0, H', hk, rfl, rfl, hown, hmap, hinn, hbel⟩ := hrel
    have HW := hid hown
    have HC := hid hmap
    have HI := hid hinn
    have HBe := hid hbel
    clear hown hmap hinn hbel HO
    by_cases hlt : k < n
    · obtain ⟨s, hs0⟩ : ∃ s, l[k]? = some s := ⟨_, List.getElem?_eq_getElem (by rw [HL.out]; exact hlt)⟩
      have hs := hid hs0
      obtain ⟨b, off, sa, cp, e0, hb, c0, c1, c2, c3, c4, c5, c6, c7, q1, q2, q3⟩ := (H.out.ext HBe.out) k s hs0
      subst e0
      have hb2 : b < w.heap.size := by
        obtain ⟨b', off', _, _, e9, hb9, _⟩ := H.out k s hs0
        simp only [Option.some.injEq, Addr.mk.injEq, and_true] at e9
        omega
      have PL := hid (HP.out k b off s sa s.2.length cp hs0 rfl (by rw [← HBe.out.cell (p := ⟨b, off + k * 8 + 7, none⟩) hb2]; exact c7))
      have SM := hid (HM.out k s hs0)
      have Q3 := hid q3
      clear hs0 q3 q1 q2
      have e1 : (0 : Int) ≤ (k : Int) := by omega
      have e2 : (k : Int) < (n : Int) := by omega
      go_wp2_with fail
      refine (l2Message_at s.1 sa s.2 s.2.length cp _ rfl SM.out PL.out.1 PL.out.2 Q3.out).mono ?_
      rintro e z ⟨g', cap', rfl, hg', ho', hz⟩
      obtain ⟨Z, hZ⟩ : ∃ Z, Z = z.alloc (.cells (msgV s.1 (.slice (some ⟨g', 0, none⟩) s.2.length cap')) 109) := ⟨_, rfl⟩
      have EZ := hid (show Below z.heap.size z Z by rw [hZ]; exact ext_alloc (Below.refl _ _) _)
      have NEWS := hid (show ReadAt Z (some ⟨z.heap.size, 0, none⟩) 1 1 8 (cellsM (s, some ⟨g', 0, none⟩, cap')) from
        ⟨rfl, fun e => by simp at e, fun x hx => by
          simp only [Option.some.injEq] at hx
          subst hx
          exact ⟨rfl, by rw [hZ]; exact blk_news (Blk.new z (msgV s.1 (.slice (some ⟨g', 0, none⟩) s.2.length cap')) 109)⟩⟩)
      have ZB := hid (ext_trans (ext_trans HBe.out hz) EZ.out)
      have ZW := hid (own_ext' (own_ext' HW.out hz) EZ.out)
      have ZN := hid (show RowZ wr.heap.size z.heap.size Z 56 2 (some ⟨g', 0, none⟩) s.2.length cap' (flat s.2) from (RowZ.mk' ho').ext EZ.out)
      have ZI := hid ((HI.out.ext hz).ext EZ.out)
      have SZ := hid (show w.heap.size ≤ Z.heap.size from ZB.out.size)
      have S1 := hid hz.size
      have S2 := hid EZ.out.size
      clear hz ho' hg' c0 c1 c2 c3 c4 c5 c6 c7
      go_wp2_with ((with_reducible refine wpList_appM w.heap.size (some ⟨g, 0, none⟩) k cp0 (flatM H') (some ⟨z.heap.size, 0, none⟩) 1 1 (cellsM (s, some ⟨g', 0, none⟩, cap')) ?_ ?_ ?_ ?_ ?_ ?_ ?_ ?_); (· rfl); (· rfl); (· rw [← hZ]; exact ZW.out); (· rw [← hZ]; exact NEWS.out); (· intro u hu; simp [cellsM] at hu; rcases hu with rfl | rfl | rfl | rfl | rfl | rfl | rfl | rfl <;> rfl); (· omega); (· rw [← hZ]; exact SZ.out); rw [← hZ]; intro a2 c2 w' r1 r2 r3; have R1 := hid r1; have R2 := hid r2; clear r1 r2 r3)
      obtain ⟨g2, cap2, C2, e4, hb9, hn9, _⟩ := own_formk R1.out (fun e => by have := congrArg (fun v => match v with | Value.slice _ n _ => n | _ => 0) e; simp at this)
      simp only [Value.slice.injEq, true_and] at e4
      obtain ⟨rfl, rfl⟩ := e4
      obtain ⟨g3, cap3, C3, e3, _, _, hblk⟩ := own_formk ZW.out (by simp)
      simp only [Value.slice.injEq, Option.some.injEq, Addr.mk.injEq, and_true, true_and] at e3
      obtain ⟨rfl, rfl⟩ := e3
      go_roundw
      case rel =>
        refine ⟨k + 1, g2, c2, H' ++ [(s, some ⟨g', 0, none⟩, cap')], by omega, by go_num, rfl, ?_, ?_, ?_, ext_grown ZB.out R2.out (fun j hj => by simp [Value.ownBlock] at hj; have := (ZW.out.lt g rfl).1; omega)⟩
        · have := R1.out
          rw [show flatM (H' ++ [(s, some ⟨g', 0, none⟩, cap')]) = flatM H' ++ cellsM (s, some ⟨g', 0, none⟩, cap') by simp [flatM]]
          exact this
        · rw [List.map_append, HC.out, List.take_add_one, hs.out]; rfl
        · have := (ZI.out.snoc (m := (s, some ⟨g', 0, none⟩, cap')) ZN.out HBe.out.size (Nat.le_refl _) S1.out)
          exact this.kept (by simpa [Value.ownBlock] using R2.out) hblk (Nat.le_trans S2.out R2.out.size)
      case measure => simp [intOf]; omega
    · have hkk : k = n := by omega
      subst hkk
      go_wp2
      go_ret
      have h9 := HC.out
      rw [List.take_of_length_le (by rw [HL.out]; omega)] at h9
      exact ⟨g, cp0, H', rfl, RowZ.mk' HW.out, h9, HI.out, HBe.out⟩
end Go.Proofs.Ytafolmhpdgpmaaa
