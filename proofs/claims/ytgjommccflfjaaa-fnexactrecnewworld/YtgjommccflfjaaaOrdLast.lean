/-
  A region that draws its order and whose one store comes last: the condition under which loads are taken first need not hold behind that store.
-/
import Derived.Test.YtgjommccflfjaaaBase
import Derived.Deep.RegionHeld
namespace Go.Proofs.Ytgjommccflfjaaa
open Go Go.ChangeShapes Go.WideShapes Go.ChangeAt Go.RowKit
set_option linter.unusedVariables false

section
variable {P : Program} {ops : Array Oper} {Q : Exit → Act → World → Prop} {md : Region.Mode} {S : World → Prop} {z : Nat}

/-- number z waits for number i -/
def waitsFor (md : Region.Mode) (ops : Array Oper) (z i : Nat) : Bool :=
  match ops[z]? with
  | some o => o.after.any fun e => Region.binds md e && (e.on == i)
  | none => false

/-- whatever order is picked; S holds behind every operation but number z -/
def wpLast (P : Program) (md : Region.Mode) (ops : Array Oper) (Q : Exit → Act → World → Prop) (S : World → Prop) (z : Nat) : Nat → Array Bool → Act → World → Prop
  | 0, L, a, w => Region.ready md ops L = [] ∧ Q .normal a w
  | f + 1, L, a, w => (Region.ready md ops L = [] → Q .normal a w) ∧ ∀ i ∈ Region.ready md ops L, wpOp P ops Q i (fun a' w' => (i ≠ z → S w') ∧ wpLast P md ops Q S z f (L.setIfInBounds i true) a' w') a w

theorem wpLast.any : ∀ (f : Nat) (L : Array Bool) (a : Act) (w : World), wpLast P md ops Q S z f L a w → wpAny P md ops Q f L a w
  | 0, _, _, _, h => h
  | f + 1, _, _, _, h => ⟨h.1, fun i hi => wpOp_mono (fun a' w' k => wpLast.any f _ a' w' k.2) (h.2 i hi)⟩

theorem wpLast.first {i : Nat} {o : Oper} {v : Value} (hi : ops[i]? = some o) (hsel : Region.noSelect ops = true) (hQ : ∀ c a w, Q (.panic c) (a.put o.dst v) w → Q (.panic c) a w) (hz : waitsFor md ops z i = true) (hiz : i ≠ z) (f : Nat) :
    ∀ (L : Array Bool) (a : Act) (w : World), (∀ j oj, ops[j]? = some oj → j ≠ i → L.getD j true = false → (∀ e ∈ oj.after, Region.binds md e = true → e.on ≠ i) → o.apart ops oj = true) →
      i ∈ Region.ready md ops L → YieldsIf P ops S o v a → S w → wpLast P md ops Q S z f (L.setIfInBounds i true) (a.put o.dst v) w → wpLast P md ops Q S z (f + 1) L a w := by
  induction f with
  | zero =>
    intro L a w _ hr hy hS H
    refine ⟨fun h => absurd (h ▸ hr) (by simp), fun j hj => ?_⟩
    rcases Nat.decEq j i with hne | rfl
    · have h0 := ready_mono hj hne
      rw [H.1] at h0
      simp at h0
    · exact hy.wpOp hi hS ⟨fun _ => hS, H⟩
  | succ f ih =>
    intro L a w hf hr hy hS H
    refine ⟨fun h => absurd (h ▸ hr) (by simp), fun j hj => ?_⟩
    rcases Nat.decEq j i with hne | rfl
    · obtain ⟨un, oj, hoj, hall⟩ := mem_ready.1 hj
      have un0 := (mem_ready.1 hr).1
      have hno : ∀ e ∈ oj.after, Region.binds md e = true → e.on ≠ i := by
        intro e he hb q
        have h1 := hall e he hb
        rw [q] at h1
        rcases Nat.lt_or_ge i L.size with lt | ge
        · simp [lt] at un0 h1
          rw [un0] at h1
          cases h1
        · simp [Array.getElem?_eq_none ge] at h1
      have hjz : j ≠ z := by
        rintro rfl
        unfold waitsFor at hz
        rw [hoj] at hz
        simp only [Array.any_eq_true, Bool.and_eq_true, beq_iff_eq] at hz
        obtain ⟨x, hx, hb, ho⟩ := hz
        exact hno _ (Array.getElem_mem hx) hb ho
      have h2 := wpOp_putIf hoj (hf j oj hoj hne un hno) (fun cs b => Region.noSelect_spec hsel i o cs b hi) (fun cs b => Region.noSelect_spec hsel j oj cs b hoj) hQ hy (H.2 j (ready_mono hj hne))
      refine wpOp_mono (fun a' w' k => ⟨k.2.1, ih _ a' w' (fun x ox hx hxi hun hn => hf x ox hx hxi ?_ hn) (ready_mono hr (Ne.symm hne)) k.1 (k.2.1 hjz) ?_⟩) h2
      · rcases Nat.decEq j x with ne | rfl
        · rw [getD_set_ne true ne] at hun; exact hun
        · exact un
      · rw [Array.setIfInBounds_comm _ _ hne]
        exact k.2.2
    · exact hy.wpOp hi hS ⟨fun _ => hS, H⟩

/-- number i is taken first -/
theorem wpLast_take {i : Nat} {o : Oper} {v : Value} {f : Nat} {L : Array Bool} {a : Act} {w : World} (hi : ops[i]? = some o) (hz : (waitsFor md ops z i && decide (i ≠ z)) = true) (hs : Region.noSelect ops = true) (hf : Region.free md ops L i = true) (hr : (Region.ready md ops L).contains i = true)
    (hQ : ∀ c a w, Q (.panic c) (a.put o.dst v) w → Q (.panic c) a w) (hy : YieldsIf P ops S o v a) (hS : S w) (h : wpLast P md ops Q S z f (L.setIfInBounds i true) (a.put o.dst v) w) : wpLast P md ops Q S z (f + 1) L a w := by
  simp only [Bool.and_eq_true, decide_eq_true_eq] at hz
  exact wpLast.first hi hs hQ hz.1 hz.2 f L a w (Region.free_spec hi hf) (by simpa using hr) hy hS h

def AllLast (P : Program) (md : Region.Mode) (ops : Array Oper) (Q : Exit → Act → World → Prop) (S : World → Prop) (z f : Nat) (L : Array Bool) (a : Act) (w : World) (rs : List Nat) : Prop :=
  ∀ i ∈ rs, wpOp P ops Q i (fun a' w' => (i ≠ z → S w') ∧ wpLast P md ops Q S z f (L.setIfInBounds i true) a' w') a w
theorem AllLast.nil {f : Nat} {L : Array Bool} {a : Act} {w : World} : AllLast P md ops Q S z f L a w [] := fun i hi => absurd hi (by simp)
theorem AllLast.cons {f : Nat} {L : Array Bool} {a : Act} {w : World} {i : Nat} {o : Oper} {rs : List Nat} (ho : ops[i]? = some o)
    (h : ∀ K : Act → World → Prop, Shut (∀ a w, S w → (S w → wpLast P md ops Q S z f (L.setIfInBounds i true) a w) → K a w) → if Region.wanted o (yielded ops a.tmps) = true then Oper.wp P o a w K Q else K (a.put o.dst undef) w)
    (hs : AllLast P md ops Q S z f L a w rs) : AllLast P md ops Q S z f L a w (i :: rs) := by
  intro j hj
  rcases List.mem_cons.1 hj with rfl | hj
  · exact wpOp_step ho (fun K hK => h K (fun a w hS hW => hK a w ⟨fun _ => hS, hW hS⟩))
  · exact hs j hj
theorem wpLast_ready {rs : List Nat} {f : Nat} {L : Array Bool} {a : Act} {w : World} (hr : Region.ready md ops L = rs) (hne : rs ≠ []) (h : AllLast P md ops Q S z f L a w rs) : wpLast P md ops Q S z (f + 1) L a w :=
  ⟨fun h0 => absurd (hr.symm.trans h0) hne, by rw [hr]; exact h⟩
/-- the last one: S is not asked for behind it -/
theorem wpLast_end {f : Nat} {L : Array Bool} {a : Act} {w : World} {o : Oper} (hr : Region.ready md ops L = [z]) (ho : ops[z]? = some o) (hl : Region.ready md ops (L.setIfInBounds z true) = [])
    (h : ∀ K : Act → World → Prop, Shut (∀ a w, Q .normal a w → K a w) → if Region.wanted o (yielded ops a.tmps) = true then Oper.wp P o a w K Q else K (a.put o.dst undef) w) : wpLast P md ops Q S z (f + 1) L a w := by
  refine ⟨fun h0 => absurd (hr.symm.trans h0) (by simp), ?_⟩
  rw [hr]
  intro i hi
  obtain rfl : i = z := by simpa using hi
  refine wpOp_step ho (fun K hK => h K (fun a w hq => hK a w ⟨fun hne => absurd rfl hne, ?_⟩))
  cases f with
  | zero => exact ⟨hl, hq⟩
  | succ f => exact ⟨fun _ => hq, by rw [hl]; simp⟩
theorem wp_region_last (z : Nat) {id : Nat} {a : Act} {w : World} (hm : P.follows .mixedOrders = true) (hS : S w.drew) (h : S w.drew → wpLast P .any ops Q S z ops.size (Array.replicate ops.size false) a w.drew) : (Code.region id ops true).wp P Q a w :=
  wp_region_any hm (wpLast.any _ _ _ _ (h hS))
end
end Go.Proofs.Ytgjommccflfjaaa
