/-
  impl.copyMessages: the messages and their slots, each list on its own.
-/
import Derived.Test.YtffklmlljekceaaGreatCopyZ
namespace Go.Proofs.YtffklmlljekceaaGreat
open Go.ChangeShapes Go.WideShapes Go.ChangeAt Go.RowKit
set_option linter.unusedVariables false
set_option linter.unusedSimpArgs false

/-- new messages, their slots in blocks behind them -/
def CopyMP (w : World) (n : Nat) (H : List Mp) (e : Ending) (w' : World) : Prop := ∃ a' c' H' mid, e = .returned (.slice a' n c') ∧ H'.map (·.1) = H.map (·.1) ∧ w.heap.size ≤ mid ∧ mid ≤ w'.heap.size ∧ RowZ w.heap.size mid w' 45 8 a' n c' (flatM H') ∧ InnZM mid w'.heap.size w' H' ∧ Below w.heap.size w w'

set_option maxHeartbeats 8000000 in
set_option maxRecDepth 20000 in
theorem copyMsgs (aH : Option Addr) (n cH : Nat) (H : List Mp) (w : World) (hr : ReadAt w aH n cH 8 (flatM H)) (hl : H.length = n) (hc : n ≤ 1048576) (hi : InnRM w H) (hs : ∀ (k : Nat) m, H[k]? = some m → m.1.2.length ≤ 1048576) :
    Calls Tryz.prog 96 #[.slice aH n cH] w (CopyMP w n H) := by
  have HR0 := hid hr
  have XH := hid hl
  have HI0 := hid hi
  have HS := hid hs
  clear hr hl hi hs
  go_enter Tryz.func96, Tryz.ntmps96
  go_wp2_with fail
  refine (copyM aH n cH (flatM H) _ HR0.out hc (flatM_one _)).mono ?_
  rintro e w3 ⟨aH', cH', rfl, oH, hb3⟩
  have ZH := hid oH
  have E3 := hid hb3
  clear oH hb3
  go_wp2_with fail
  go_loopw [9] (fun i wr => ∃ (k : Nat) (H' : List Mp), k ≤ n ∧ i = .int .i64 k ∧ H'.map (·.1) = (H.take k).map (·.1) ∧ RowZ w.heap.size w3.heap.size wr 45 8 aH' n cH' (flatM (H' ++ H.drop k)) ∧ InnZM w3.heap.size wr.heap.size wr H' ∧ Below w.heap.size w wr ∧ w3.heap.size ≤ wr.heap.size) (fun i _ => n - (intOf i).toNat)
  case atStart => exact ⟨0, [], Nat.zero_le _, rfl, by simp, ZH.out, InnZM.nil _ _ _, E3.out, Nat.le_refl _⟩
  case round =>
    obtain ⟨k, H', hk, rfl, hmap, hrow, hinn, hbel, hsz⟩ := hrel
    have HM := hid hmap
    have HR := hid hrow
    have HI := hid hinn
    have HB := hid hbel
    have HZ0 := hid hsz
    have LH := hid (show H'.length = k by have := congrArg List.length hmap; simp at this; have := XH.out; omega)
    clear hmap hrow hinn hbel hsz
    by_cases hlt : k < n
    · obtain ⟨m, hm0⟩ : ∃ m, H[k]? = some m := ⟨_, List.getElem?_eq_getElem (by rw [XH.out]; exact hlt)⟩
      have DR := hid (show H.drop k = m :: H.drop (k + 1) by
        obtain ⟨h1, h2⟩ := List.getElem?_eq_some_iff.1 hm0
        rw [← h2]; exact List.drop_eq_getElem_cons h1)
      have RM := hid hm0
      have MI := hid (HI0.out.row m (List.mem_of_getElem? hm0)).read
      have MS := hid (HS.out k m hm0)
      clear hm0
      have row0 := HR.out
      rw [DR.out] at row0
      obtain ⟨g, e0, _, c7, _⟩ := (row0.row (B := 0) (col := fun _ => 0) (t := 0) (Nat.zero_le _) (fun _ _ _ => rfl)).cellM (i := k) (m := m) (by rw [List.getElem?_append_right (by rw [LH.out]; omega), LH.out, Nat.sub_self]; rfl) (q := 7) (by omega) rfl
      subst e0
      have GL := hid (show w.heap.size ≤ g ∧ g < w3.heap.size from ⟨(row0.lo _ rfl).1, row0.hi _ rfl⟩)
      have RW := hid row0
      clear row0
      have e1 : (0 : Int) ≤ (k : Int) := by omega
      have e2 : (k : Int) < (n : Int) := by omega
      go_wp2_with fail
      refine (copyS m.2.1 m.1.2.length m.2.2 (flat m.1.2) _ (MI.out.ext HB.out) MS.out (flat_one _)).mono ?_
      rintro e z ⟨a9, c9, rfl, o9, hz⟩
      have O9 := hid o9
      have HZ := hid hz
      have ZR := hid (RW.out.ext hz)
      clear o9 hz c7
      have c9' : z.cell? ⟨g, k * 8 + 7, none⟩ = some (.slice m.2.1 m.1.2.length m.2.2) := by
        obtain ⟨g', e0, _, c7, _⟩ := (ZR.out.row (B := 0) (col := fun _ => 0) (t := 0) (Nat.zero_le _) (fun _ _ _ => rfl)).cellM (i := k) (m := m) (by rw [List.getElem?_append_right (by rw [LH.out]; omega), LH.out, Nat.sub_self]; rfl) (q := 7) (by omega) rfl
        simp only [Option.some.injEq, Addr.mk.injEq, and_true] at e0
        rw [e0]; exact c7
      have f9 : z.frozen? ⟨g, k * 8 + 7, none⟩ = false := ZR.out.own.frozenAt _
      go_wp2_with fail
      go_roundw
      case rel =>
        refine ⟨k + 1, H' ++ [(m.1, a9, c9)], by omega, by go_num, ?_, ?_, ?_, ?_, ?_⟩
        · rw [List.map_append, HM.out, List.take_add_one, RM.out, List.map_append]; rfl
        · have st := ZR.out.own.stored (k * 8 + 7) (.slice a9 m.1.2.length c9)
          rw [← LH.out, flatM_put, LH.out] at st
          rw [List.append_assoc, List.singleton_append]
          exact ⟨st.1, ZR.out.hi⟩
        · have := (HI.out.ext HZ.out).snoc (m := (m.1, a9, c9)) O9.out (by have := HZ0.out; omega) (Nat.le_refl _) HZ.out.size
          have := this.set (q := ⟨g, k * 8 + 7, none⟩) (by have := GL.out; simp; omega) (.slice a9 m.1.2.length c9)
          simpa using this
        · exact (HB.out.trans (HZ.out.mono (by have := E3.out.size; have := HZ0.out; omega))).setCell (by have := GL.out; simp; omega) _
        · have := HZ0.out; have := HZ.out.size; simp; omega
      case measure => simp [intOf]; omega
    · have hkk : k = n := by omega
      have HF := hid (show H'.map (·.1) = H.map (·.1) by rw [HM.out, hkk, ← XH.out, List.take_length])
      have HRf := hid (show RowZ w.heap.size w3.heap.size wr 45 8 aH' n cH' (flatM H') by
        have h9 := HR.out
        rw [hkk, List.drop_of_length_le (by rw [XH.out]; omega), List.append_nil] at h9
        exact h9)
      go_wp2_with fail
      go_ret
      exact ⟨aH', cH', H', w3.heap.size, rfl, HF.out, E3.out.size, HZ0.out, HRf.out, HI.out, HB.out⟩
end Go.Proofs.YtffklmlljekceaaGreat
