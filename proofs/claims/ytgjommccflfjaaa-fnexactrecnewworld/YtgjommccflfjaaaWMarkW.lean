/-
  Marks over a new world.
-/
import Derived.Test.YtgjommccflfjaaaWMark
namespace Go.Proofs.Ytgjommccflfjaaa
open Go.ChangeShapes Go.WideShapes Go.ChangeAt Go.RowKit Go.Deep Go.Joins
set_option linter.unusedVariables false
set_option linter.unusedSimpArgs false

/-- w' is w but for block g and new blocks -/
structure OnlyN (w w' : World) (g : Nat) : Prop where
  os : w'.os = w.os
  tape : w'.tape = w.tape
  output : w'.output = w.output
  size : w.heap.size ≤ w'.heap.size
  block : ∀ b, b < w.heap.size → b ≠ g → w'.heap[b]? = w.heap[b]?
theorem OnlyN.blk {w w' : World} {g : Nat} (h : OnlyN w w' g) {b : Nat} {C : Array Value} {t : TypeId} (hb : Blk w b C t) (hne : b ≠ g) : Blk w' b C t := (h.block b hb.lt hne).trans hb
theorem OnlyN.below {B : Nat} {a w w' : World} {g : Nat} (h : OnlyN w w' g) (hb : Below B a w) (hB : B ≤ w.heap.size) (hg : B ≤ g) : Below B a w' :=
  ⟨h.os.trans hb.os, h.tape.trans hb.tape, h.output.trans hb.output, Nat.le_trans hb.size h.size, fun k hk => (h.block k (by omega) (by omega)).trans (hb.block k hk)⟩

set_option maxHeartbeats 4000000 in
theorem markW (g n cap : Nat) (C : Array Value) (w : World) (hC : Blk w g C 51) (hsz : C.size = cap * 18) (hn : n ≤ cap) (hn5 : n ≤ 5) (hnil : NilRow C n) :
    Calls Try.prog 10 #[.agg #[.slice (some ⟨g, 0, none⟩) n cap, .slice none 0 0, .slice none 0 0], .int .i64 1] w fun e w' => e = .returned (.int .i64 (11 * (n : Int) + 1)) ∧ (∃ C', Blk w' g C' 51 ∧ C'.size = cap * 18 ∧ MkTo C' n) ∧ OnlyN w w' g := by
  have b0 := Blk.new w #[.slice (some ⟨g, 0, none⟩) n cap, .slice none 0 0, .slice none 0 0] 26
  have hCa := hC.alloc (.cells #[.slice (some ⟨g, 0, none⟩) n cap, .slice none 0 0, .slice none 0 0] 26)
  have hlt := hC.lt
  go_enter Try.func10, Try.ntmps10
  go_wp2_with fail
  refine (markNew g n cap C _ hCa hsz hn hn5 hnil).mono ?_
  rintro e w1 ⟨rfl, hX, hO⟩
  have c1 := (hO.blk b0 (by omega)).cell
  have HX : Hid (∃ C', Blk w1 g C' 51 ∧ C'.size = cap * 18 ∧ MkTo C' n) := hX
  clear hX b0 hCa hC
  go_wp2_with (first
    | (go_at_call 28; refine (markRecMessageS_nil _ _).mono ?_; rintro e w' ⟨rfl, hw'⟩; subst w')
    | (go_at_call 29; refine (markRecFixS_nil _ _).mono ?_; rintro e w' ⟨rfl, hw'⟩; subst w'))
  go_ret
  refine ⟨rfl, HX.out, hO.os, hO.tape, hO.output, by rw [hO.size]; simp, fun b hb hne => (hO.block b hne).trans (Below.heap_alloc w _ b hb)⟩

set_option maxHeartbeats 4000000 in
theorem heldW (g n cap : Nat) (C : Array Value) (w : World) (hC : Blk w g C 51) (hn5 : n ≤ 5) (hMk0 : MkTo C n) :
    Calls Try.prog 11 #[.agg #[.slice (some ⟨g, 0, none⟩) n cap, .slice none 0 0, .slice none 0 0], .int .i64 1] w fun e w' => e = .returned (.int .i64 (11 * (n : Int) + 1)) ∧ Below w.heap.size w w' := by
  have hMk : Hid (MkTo C n) := hMk0
  clear hMk0
  have b0 := Blk.new w #[.slice (some ⟨g, 0, none⟩) n cap, .slice none 0 0, .slice none 0 0] 26
  have hCa := hC.alloc (.cells #[.slice (some ⟨g, 0, none⟩) n cap, .slice none 0 0, .slice none 0 0] 26)
  go_enter Try.func11, Try.ntmps11
  go_wp2_with fail
  refine (heldNew g n cap C _ hCa hn5 hMk.out).mono ?_
  rintro e w1 ⟨rfl, hb1⟩
  have c1 := (b0.ext hb1).cell
  clear b0 hCa
  go_wp2_with (first
    | (go_at_call 31; refine (heldRecMessageS_nil _ _).mono ?_; rintro e w' ⟨rfl, hw'⟩; subst w')
    | (go_at_call 32; refine (heldRecFixS_nil _ _).mono ?_; rintro e w' ⟨rfl, hw'⟩; subst w'))
  go_ret
  exact ⟨rfl, ext_trans (ext_alloc (Below.refl _ _) _) hb1⟩

set_option maxHeartbeats 4000000 in
theorem markW_nil (w : World) :
    Calls Try.prog 10 #[.agg #[.slice none 0 0, .slice none 0 0, .slice none 0 0], .int .i64 1] w fun e w' => e = .returned (.int .i64 1) ∧ Below w.heap.size w w' := by
  go_enter Try.func10, Try.ntmps10
  go_wp2_with (first
    | (go_at_call 27; refine (markRecorderS_nil _ _).mono ?_; rintro e w' ⟨rfl, hw'⟩; subst w')
    | (go_at_call 28; refine (markRecMessageS_nil _ _).mono ?_; rintro e w' ⟨rfl, hw'⟩; subst w')
    | (go_at_call 29; refine (markRecFixS_nil _ _).mono ?_; rintro e w' ⟨rfl, hw'⟩; subst w'))
  go_ret
  exact ⟨rfl, ext_alloc (Below.refl _ _) _⟩
set_option maxHeartbeats 4000000 in
theorem heldW_nil (w : World) :
    Calls Try.prog 11 #[.agg #[.slice none 0 0, .slice none 0 0, .slice none 0 0], .int .i64 1] w fun e w' => e = .returned (.int .i64 1) ∧ Below w.heap.size w w' := by
  go_enter Try.func11, Try.ntmps11
  go_wp2_with (first
    | (go_at_call 30; refine (heldRecorderS_nil _ _).mono ?_; rintro e w' ⟨rfl, hw'⟩; subst w')
    | (go_at_call 31; refine (heldRecMessageS_nil _ _).mono ?_; rintro e w' ⟨rfl, hw'⟩; subst w')
    | (go_at_call 32; refine (heldRecFixS_nil _ _).mono ?_; rintro e w' ⟨rfl, hw'⟩; subst w'))
  go_ret
  exact ⟨rfl, ext_alloc (Below.refl _ _) _⟩
end Go.Proofs.Ytgjommccflfjaaa
