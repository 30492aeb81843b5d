/-
  Marks over recorders whose lists are nil.
-/
import Derived.Test.YtgjommccflfjaaaWNew
namespace Go.Proofs.Ytgjommccflfjaaa
open Go.ChangeShapes Go.WideShapes Go.ChangeAt Go.RowKit Go.Deep Go.Joins
set_option linter.unusedVariables false
set_option linter.unusedSimpArgs false
theorem markRecSlotS_nil (k : Int) (w : World) : Calls Try.prog 54 #[.slice none 0 0, .int .i64 k] w fun e w' => e = .returned (.int .i64 k) ∧ w' = w := by
  go_enter Try.func54, Try.ntmps54
  go_wp2
  go_loopw [1, 5] (fun v i wr => v = .int .i64 k ∧ i = .int .i64 0 ∧ wr = w) (fun _ _ _ => 0)
  case atStart => exact ⟨rfl, rfl, rfl⟩
  case round =>
    obtain ⟨rfl, rfl, rfl⟩ := hrel
    go_wp2
    go_ret
    exact ⟨rfl, rfl⟩
theorem heldRecSlotS_nil (k : Int) (w : World) : Calls Try.prog 59 #[.slice none 0 0, .int .i64 k] w fun e w' => e = .returned (.int .i64 k) ∧ w' = w := by
  go_enter Try.func59, Try.ntmps59
  go_wp2
  go_loopw [1, 5] (fun v i wr => v = .int .i64 k ∧ i = .int .i64 0 ∧ wr = w) (fun _ _ _ => 0)
  case atStart => exact ⟨rfl, rfl, rfl⟩
  case round =>
    obtain ⟨rfl, rfl, rfl⟩ := hrel
    go_wp2
    go_ret
    exact ⟨rfl, rfl⟩
theorem markStringS_nil (k : Int) (w : World) : Calls Try.prog 55 #[.slice none 0 0, .int .i64 k] w fun e w' => e = .returned (.int .i64 k) ∧ w' = w := by
  go_enter Try.func55, Try.ntmps55
  go_wp2
  go_loopw [1, 5] (fun v i wr => v = .int .i64 k ∧ i = .int .i64 0 ∧ wr = w) (fun _ _ _ => 0)
  case atStart => exact ⟨rfl, rfl, rfl⟩
  case round =>
    obtain ⟨rfl, rfl, rfl⟩ := hrel
    go_wp2
    go_ret
    exact ⟨rfl, rfl⟩
theorem heldStringS_nil (k : Int) (w : World) : Calls Try.prog 60 #[.slice none 0 0, .int .i64 k] w fun e w' => e = .returned (.int .i64 k) ∧ w' = w := by
  go_enter Try.func60, Try.ntmps60
  go_wp2
  go_loopw [1, 5] (fun v i wr => v = .int .i64 k ∧ i = .int .i64 0 ∧ wr = w) (fun _ _ _ => 0)
  case atStart => exact ⟨rfl, rfl, rfl⟩
  case round =>
    obtain ⟨rfl, rfl, rfl⟩ := hrel
    go_wp2
    go_ret
    exact ⟨rfl, rfl⟩
theorem markIntS_nil (k : Int) (w : World) : Calls Try.prog 56 #[.slice none 0 0, .int .i64 k] w fun e w' => e = .returned (.int .i64 k) ∧ w' = w := by
  go_enter Try.func56, Try.ntmps56
  go_wp2
  go_loopw [1, 5] (fun v i wr => v = .int .i64 k ∧ i = .int .i64 0 ∧ wr = w) (fun _ _ _ => 0)
  case atStart => exact ⟨rfl, rfl, rfl⟩
  case round =>
    obtain ⟨rfl, rfl, rfl⟩ := hrel
    go_wp2
    go_ret
    exact ⟨rfl, rfl⟩
theorem heldIntS_nil (k : Int) (w : World) : Calls Try.prog 61 #[.slice none 0 0, .int .i64 k] w fun e w' => e = .returned (.int .i64 k) ∧ w' = w := by
  go_enter Try.func61, Try.ntmps61
  go_wp2
  go_loopw [1, 5] (fun v i wr => v = .int .i64 k ∧ i = .int .i64 0 ∧ wr = w) (fun _ _ _ => 0)
  case atStart => exact ⟨rfl, rfl, rfl⟩
  case round =>
    obtain ⟨rfl, rfl, rfl⟩ := hrel
    go_wp2
    go_ret
    exact ⟨rfl, rfl⟩
theorem markRecAckS_nil (k : Int) (w : World) : Calls Try.prog 57 #[.slice none 0 0, .int .i64 k] w fun e w' => e = .returned (.int .i64 k) ∧ w' = w := by
  go_enter Try.func57, Try.ntmps57
  go_wp2
  go_loopw [1, 5] (fun v i wr => v = .int .i64 k ∧ i = .int .i64 0 ∧ wr = w) (fun _ _ _ => 0)
  case atStart => exact ⟨rfl, rfl, rfl⟩
  case round =>
    obtain ⟨rfl, rfl, rfl⟩ := hrel
    go_wp2
    go_ret
    exact ⟨rfl, rfl⟩
theorem heldRecAckS_nil (k : Int) (w : World) : Calls Try.prog 62 #[.slice none 0 0, .int .i64 k] w fun e w' => e = .returned (.int .i64 k) ∧ w' = w := by
  go_enter Try.func62, Try.ntmps62
  go_wp2
  go_loopw [1, 5] (fun v i wr => v = .int .i64 k ∧ i = .int .i64 0 ∧ wr = w) (fun _ _ _ => 0)
  case atStart => exact ⟨rfl, rfl, rfl⟩
  case round =>
    obtain ⟨rfl, rfl, rfl⟩ := hrel
    go_wp2
    go_ret
    exact ⟨rfl, rfl⟩
theorem markRecMessageS_nil (k : Int) (w : World) : Calls Try.prog 28 #[.slice none 0 0, .int .i64 k] w fun e w' => e = .returned (.int .i64 k) ∧ w' = w := by
  go_enter Try.func28, Try.ntmps28
  go_wp2
  go_loopw [1, 5] (fun v i wr => v = .int .i64 k ∧ i = .int .i64 0 ∧ wr = w) (fun _ _ _ => 0)
  case atStart => exact ⟨rfl, rfl, rfl⟩
  case round =>
    obtain ⟨rfl, rfl, rfl⟩ := hrel
    go_wp2
    go_ret
    exact ⟨rfl, rfl⟩
theorem heldRecMessageS_nil (k : Int) (w : World) : Calls Try.prog 31 #[.slice none 0 0, .int .i64 k] w fun e w' => e = .returned (.int .i64 k) ∧ w' = w := by
  go_enter Try.func31, Try.ntmps31
  go_wp2
  go_loopw [1, 5] (fun v i wr => v = .int .i64 k ∧ i = .int .i64 0 ∧ wr = w) (fun _ _ _ => 0)
  case atStart => exact ⟨rfl, rfl, rfl⟩
  case round =>
    obtain ⟨rfl, rfl, rfl⟩ := hrel
    go_wp2
    go_ret
    exact ⟨rfl, rfl⟩
theorem markRecFixS_nil (k : Int) (w : World) : Calls Try.prog 29 #[.slice none 0 0, .int .i64 k] w fun e w' => e = .returned (.int .i64 k) ∧ w' = w := by
  go_enter Try.func29, Try.ntmps29
  go_wp2
  go_loopw [1, 5] (fun v i wr => v = .int .i64 k ∧ i = .int .i64 0 ∧ wr = w) (fun _ _ _ => 0)
  case atStart => exact ⟨rfl, rfl, rfl⟩
  case round =>
    obtain ⟨rfl, rfl, rfl⟩ := hrel
    go_wp2
    go_ret
    exact ⟨rfl, rfl⟩
theorem heldRecFixS_nil (k : Int) (w : World) : Calls Try.prog 32 #[.slice none 0 0, .int .i64 k] w fun e w' => e = .returned (.int .i64 k) ∧ w' = w := by
  go_enter Try.func32, Try.ntmps32
  go_wp2
  go_loopw [1, 5] (fun v i wr => v = .int .i64 k ∧ i = .int .i64 0 ∧ wr = w) (fun _ _ _ => 0)
  case atStart => exact ⟨rfl, rfl, rfl⟩
  case round =>
    obtain ⟨rfl, rfl, rfl⟩ := hrel
    go_wp2
    go_ret
    exact ⟨rfl, rfl⟩

def mkV (k : Int) : Array Value := #[.int .i64 (k), .int .i64 (k + 1), .bool ((k + 1 + 1) % 3 == 0), .int .i64 (k + 1 + 1 + 1), .int .i64 (k + 1 + 1 + 1 + 1), .slice none 0 0, .int .i64 (k + 1 + 1 + 1 + 1 + 1), .int .i64 (k + 1 + 1 + 1 + 1 + 1 + 1), .slice none 0 0, .slice none 0 0, .slice none 0 0, .bool ((k + 1 + 1 + 1 + 1 + 1 + 1 + 1) % 3 == 0), .bool ((k + 1 + 1 + 1 + 1 + 1 + 1 + 1 + 1) % 3 == 0), .int .i64 (k + 1 + 1 + 1 + 1 + 1 + 1 + 1 + 1 + 1), .slice none 0 0, .slice none 0 0, .slice none 0 0, .int .i64 (k + 1 + 1 + 1 + 1 + 1 + 1 + 1 + 1 + 1 + 1)]
/-- the lists of the recorders from number i on are nil -/
def NilRow (C : Array Value) (n : Nat) : Prop := ∀ i, i < n → C[i * 18 + 3 + 2]? = some (.slice none 0 0) ∧ C[i * 18 + 6 + 2]? = some (.slice none 0 0) ∧ C[i * 18 + 9]? = some (.slice none 0 0) ∧ C[i * 18 + 10]? = some (.slice none 0 0) ∧ C[i * 18 + 14]? = some (.slice none 0 0) ∧ C[i * 18 + 15]? = some (.slice none 0 0) ∧ C[i * 18 + 16]? = some (.slice none 0 0)

def setR (D : Array Value) (b : Nat) (v0 v1 v2 v3 v4 v6 v7 v11 v12 v13 v17 : Value) : Array Value := ((((((((((D.setIfInBounds (b) v0).setIfInBounds (b + 1) v1).setIfInBounds (b + 2) v2).setIfInBounds (b + 3) v3).setIfInBounds (b + 3 + 1) v4).setIfInBounds (b + 6) v6).setIfInBounds (b + 6 + 1) v7).setIfInBounds (b + 11) v11).setIfInBounds (b + 12) v12).setIfInBounds (b + 13) v13).setIfInBounds (b + 17) v17
theorem setR_size (D : Array Value) (b : Nat) (v0 v1 v2 v3 v4 v6 v7 v11 v12 v13 v17 : Value) : (setR D b v0 v1 v2 v3 v4 v6 v7 v11 v12 v13 v17).size = D.size := by simp [setR]
theorem setR_other (D : Array Value) (b : Nat) (v0 v1 v2 v3 v4 v6 v7 v11 v12 v13 v17 : Value) (i : Nat) (h : i < b ∨ b + 18 ≤ i) : (setR D b v0 v1 v2 v3 v4 v6 v7 v11 v12 v13 v17)[i]? = D[i]? := by
  unfold setR
  rw [Array.getElem?_setIfInBounds_ne (by omega), Array.getElem?_setIfInBounds_ne (by omega), Array.getElem?_setIfInBounds_ne (by omega), Array.getElem?_setIfInBounds_ne (by omega), Array.getElem?_setIfInBounds_ne (by omega), Array.getElem?_setIfInBounds_ne (by omega), Array.getElem?_setIfInBounds_ne (by omega), Array.getElem?_setIfInBounds_ne (by omega), Array.getElem?_setIfInBounds_ne (by omega), Array.getElem?_setIfInBounds_ne (by omega), Array.getElem?_setIfInBounds_ne (by omega)]
theorem setR_nil (D : Array Value) (b : Nat) (v0 v1 v2 v3 v4 v6 v7 v11 v12 v13 v17 : Value) (j : Nat) (hj : j = 5 ∨ j = 8 ∨ j = 9 ∨ j = 10 ∨ j = 14 ∨ j = 15 ∨ j = 16) : (setR D b v0 v1 v2 v3 v4 v6 v7 v11 v12 v13 v17)[b + j]? = D[b + j]? := by
  unfold setR
  rw [Array.getElem?_setIfInBounds_ne (by omega), Array.getElem?_setIfInBounds_ne (by omega), Array.getElem?_setIfInBounds_ne (by omega), Array.getElem?_setIfInBounds_ne (by omega), Array.getElem?_setIfInBounds_ne (by omega), Array.getElem?_setIfInBounds_ne (by omega), Array.getElem?_setIfInBounds_ne (by omega), Array.getElem?_setIfInBounds_ne (by omega), Array.getElem?_setIfInBounds_ne (by omega), Array.getElem?_setIfInBounds_ne (by omega), Array.getElem?_setIfInBounds_ne (by omega)]
theorem setR_0 (D : Array Value) (b : Nat) (v0 v1 v2 v3 v4 v6 v7 v11 v12 v13 v17 : Value) (h : b + 18 ≤ D.size) : (setR D b v0 v1 v2 v3 v4 v6 v7 v11 v12 v13 v17)[b]? = some v0 := by
  unfold setR
  rw [Array.getElem?_setIfInBounds_ne (by omega), Array.getElem?_setIfInBounds_ne (by omega), Array.getElem?_setIfInBounds_ne (by omega), Array.getElem?_setIfInBounds_ne (by omega), Array.getElem?_setIfInBounds_ne (by omega), Array.getElem?_setIfInBounds_ne (by omega), Array.getElem?_setIfInBounds_ne (by omega), Array.getElem?_setIfInBounds_ne (by omega), Array.getElem?_setIfInBounds_ne (by omega), Array.getElem?_setIfInBounds_ne (by omega), Array.getElem?_setIfInBounds_self_of_lt (by first | omega | (simp; omega))]
theorem setR_1 (D : Array Value) (b : Nat) (v0 v1 v2 v3 v4 v6 v7 v11 v12 v13 v17 : Value) (h : b + 18 ≤ D.size) : (setR D b v0 v1 v2 v3 v4 v6 v7 v11 v12 v13 v17)[b + 1]? = some v1 := by
  unfold setR
  rw [Array.getElem?_setIfInBounds_ne (by omega), Array.getElem?_setIfInBounds_ne (by omega), Array.getElem?_setIfInBounds_ne (by omega), Array.getElem?_setIfInBounds_ne (by omega), Array.getElem?_setIfInBounds_ne (by omega), Array.getElem?_setIfInBounds_ne (by omega), Array.getElem?_setIfInBounds_ne (by omega), Array.getElem?_setIfInBounds_ne (by omega), Array.getElem?_setIfInBounds_ne (by omega), Array.getElem?_setIfInBounds_self_of_lt (by first | omega | (simp; omega))]
theorem setR_2 (D : Array Value) (b : Nat) (v0 v1 v2 v3 v4 v6 v7 v11 v12 v13 v17 : Value) (h : b + 18 ≤ D.size) : (setR D b v0 v1 v2 v3 v4 v6 v7 v11 v12 v13 v17)[b + 2]? = some v2 := by
  unfold setR
  rw [Array.getElem?_setIfInBounds_ne (by omega), Array.getElem?_setIfInBounds_ne (by omega), Array.getElem?_setIfInBounds_ne (by omega), Array.getElem?_setIfInBounds_ne (by omega), Array.getElem?_setIfInBounds_ne (by omega), Array.getElem?_setIfInBounds_ne (by omega), Array.getElem?_setIfInBounds_ne (by omega), Array.getElem?_setIfInBounds_ne (by omega), Array.getElem?_setIfInBounds_self_of_lt (by first | omega | (simp; omega))]
theorem setR_3 (D : Array Value) (b : Nat) (v0 v1 v2 v3 v4 v6 v7 v11 v12 v13 v17 : Value) (h : b + 18 ≤ D.size) : (setR D b v0 v1 v2 v3 v4 v6 v7 v11 v12 v13 v17)[b + 3]? = some v3 := by
  unfold setR
  rw [Array.getElem?_setIfInBounds_ne (by omega), Array.getElem?_setIfInBounds_ne (by omega), Array.getElem?_setIfInBounds_ne (by omega), Array.getElem?_setIfInBounds_ne (by omega), Array.getElem?_setIfInBounds_ne (by omega), Array.getElem?_setIfInBounds_ne (by omega), Array.getElem?_setIfInBounds_ne (by omega), Array.getElem?_setIfInBounds_self_of_lt (by first | omega | (simp; omega))]
theorem setR_4 (D : Array Value) (b : Nat) (v0 v1 v2 v3 v4 v6 v7 v11 v12 v13 v17 : Value) (h : b + 18 ≤ D.size) : (setR D b v0 v1 v2 v3 v4 v6 v7 v11 v12 v13 v17)[b + 4]? = some v4 := by
  unfold setR
  rw [Array.getElem?_setIfInBounds_ne (by omega), Array.getElem?_setIfInBounds_ne (by omega), Array.getElem?_setIfInBounds_ne (by omega), Array.getElem?_setIfInBounds_ne (by omega), Array.getElem?_setIfInBounds_ne (by omega), Array.getElem?_setIfInBounds_ne (by omega), Array.getElem?_setIfInBounds_self_of_lt (by first | omega | (simp; omega))]
theorem setR_6 (D : Array Value) (b : Nat) (v0 v1 v2 v3 v4 v6 v7 v11 v12 v13 v17 : Value) (h : b + 18 ≤ D.size) : (setR D b v0 v1 v2 v3 v4 v6 v7 v11 v12 v13 v17)[b + 6]? = some v6 := by
  unfold setR
  rw [Array.getElem?_setIfInBounds_ne (by omega), Array.getElem?_setIfInBounds_ne (by omega), Array.getElem?_setIfInBounds_ne (by omega), Array.getElem?_setIfInBounds_ne (by omega), Array.getElem?_setIfInBounds_ne (by omega), Array.getElem?_setIfInBounds_self_of_lt (by first | omega | (simp; omega))]
theorem setR_7 (D : Array Value) (b : Nat) (v0 v1 v2 v3 v4 v6 v7 v11 v12 v13 v17 : Value) (h : b + 18 ≤ D.size) : (setR D b v0 v1 v2 v3 v4 v6 v7 v11 v12 v13 v17)[b + 7]? = some v7 := by
  unfold setR
  rw [Array.getElem?_setIfInBounds_ne (by omega), Array.getElem?_setIfInBounds_ne (by omega), Array.getElem?_setIfInBounds_ne (by omega), Array.getElem?_setIfInBounds_ne (by omega), Array.getElem?_setIfInBounds_self_of_lt (by first | omega | (simp; omega))]
theorem setR_11 (D : Array Value) (b : Nat) (v0 v1 v2 v3 v4 v6 v7 v11 v12 v13 v17 : Value) (h : b + 18 ≤ D.size) : (setR D b v0 v1 v2 v3 v4 v6 v7 v11 v12 v13 v17)[b + 11]? = some v11 := by
  unfold setR
  rw [Array.getElem?_setIfInBounds_ne (by omega), Array.getElem?_setIfInBounds_ne (by omega), Array.getElem?_setIfInBounds_ne (by omega), Array.getElem?_setIfInBounds_self_of_lt (by first | omega | (simp; omega))]
theorem setR_12 (D : Array Value) (b : Nat) (v0 v1 v2 v3 v4 v6 v7 v11 v12 v13 v17 : Value) (h : b + 18 ≤ D.size) : (setR D b v0 v1 v2 v3 v4 v6 v7 v11 v12 v13 v17)[b + 12]? = some v12 := by
  unfold setR
  rw [Array.getElem?_setIfInBounds_ne (by omega), Array.getElem?_setIfInBounds_ne (by omega), Array.getElem?_setIfInBounds_self_of_lt (by first | omega | (simp; omega))]
theorem setR_13 (D : Array Value) (b : Nat) (v0 v1 v2 v3 v4 v6 v7 v11 v12 v13 v17 : Value) (h : b + 18 ≤ D.size) : (setR D b v0 v1 v2 v3 v4 v6 v7 v11 v12 v13 v17)[b + 13]? = some v13 := by
  unfold setR
  rw [Array.getElem?_setIfInBounds_ne (by omega), Array.getElem?_setIfInBounds_self_of_lt (by first | omega | (simp; omega))]
theorem setR_17 (D : Array Value) (b : Nat) (v0 v1 v2 v3 v4 v6 v7 v11 v12 v13 v17 : Value) (h : b + 18 ≤ D.size) : (setR D b v0 v1 v2 v3 v4 v6 v7 v11 v12 v13 v17)[b + 17]? = some v17 := by
  unfold setR
  rw [Array.getElem?_setIfInBounds_self_of_lt (by first | omega | (simp; omega))]

/-- w' is w but for block g -/
structure OnlyG (w w' : World) (g : Nat) : Prop where
  os : w'.os = w.os
  tape : w'.tape = w.tape
  output : w'.output = w.output
  size : w'.heap.size = w.heap.size
  block : ∀ b, b ≠ g → w'.heap[b]? = w.heap[b]?
theorem OnlyG.refl (w : World) (g : Nat) : OnlyG w w g := ⟨rfl, rfl, rfl, rfl, fun _ _ => rfl⟩
theorem OnlyG.set {w w' : World} {g : Nat} (h : OnlyG w w' g) (o : Nat) (v : Value) : OnlyG w (w'.setCell ⟨g, o, none⟩ v) g := by
  have hb : Below 0 w' (w'.setCell ⟨g, o, none⟩ v) := (Below.refl 0 w').setCell (Nat.zero_le _) v
  exact ⟨hb.os.trans h.os, hb.tape.trans h.tape, hb.output.trans h.output, (World.size_setCell _ _ _).trans h.size, fun b hne => (heap_setCell_other _ _ _ _ hne).trans (h.block b hne)⟩
theorem OnlyG.blk {w w' : World} {g : Nat} (h : OnlyG w w' g) {b : Nat} {C : Array Value} {t : TypeId} (hb : Blk w b C t) (hne : b ≠ g) : Blk w' b C t := (h.block b hne).trans hb
theorem OnlyG.below {B : Nat} {a w w' : World} {g : Nat} (h : OnlyG w w' g) (hb : Below B a w) (hg : B ≤ g) : Below B a w' :=
  ⟨h.os.trans hb.os, h.tape.trans hb.tape, h.output.trans hb.output, by rw [h.size]; exact hb.size, fun k hk => (h.block k (by omega)).trans (hb.block k hk)⟩
/-- the first k recorders are marked -/
def MkTo (D : Array Value) (k : Nat) : Prop := ∀ (i j : Nat), i < k → j < 18 → D[i * 18 + j]? = (mkV (11 * (i : Int) + 1))[j]?
theorem list18j {P : Nat → Prop} (h0 : P 0) (h1 : P 1) (h2 : P 2) (h3 : P 3) (h4 : P 4) (h5 : P 5) (h6 : P 6) (h7 : P 7) (h8 : P 8) (h9 : P 9) (h10 : P 10) (h11 : P 11) (h12 : P 12) (h13 : P 13) (h14 : P 14) (h15 : P 15) (h16 : P 16) (h17 : P 17) : ∀ j, j < 18 → P j
  | 0, _ => h0 | 1, _ => h1 | 2, _ => h2 | 3, _ => h3 | 4, _ => h4 | 5, _ => h5 | 6, _ => h6 | 7, _ => h7 | 8, _ => h8 | 9, _ => h9 | 10, _ => h10 | 11, _ => h11 | 12, _ => h12 | 13, _ => h13 | 14, _ => h14 | 15, _ => h15 | 16, _ => h16 | 17, _ => h17
  | n + 18, h => absurd h (by omega)
theorem MkTo.step {D : Array Value} {k n cap : Nat} (h : MkTo D k) (hn : NilRow D n) (hk : k < n) (hs : D.size = cap * 18) (hc : n ≤ cap) : MkTo (setR D (k * 18) (.int .i64 ((11 * (k : Int) + 1))) (.int .i64 ((11 * (k : Int) + 1) + 1)) (.bool (((11 * (k : Int) + 1) + 1 + 1) % 3 == 0)) (.int .i64 ((11 * (k : Int) + 1) + 1 + 1 + 1)) (.int .i64 ((11 * (k : Int) + 1) + 1 + 1 + 1 + 1)) (.int .i64 ((11 * (k : Int) + 1) + 1 + 1 + 1 + 1 + 1)) (.int .i64 ((11 * (k : Int) + 1) + 1 + 1 + 1 + 1 + 1 + 1)) (.bool (((11 * (k : Int) + 1) + 1 + 1 + 1 + 1 + 1 + 1 + 1) % 3 == 0)) (.bool (((11 * (k : Int) + 1) + 1 + 1 + 1 + 1 + 1 + 1 + 1 + 1) % 3 == 0)) (.int .i64 ((11 * (k : Int) + 1) + 1 + 1 + 1 + 1 + 1 + 1 + 1 + 1 + 1)) (.int .i64 ((11 * (k : Int) + 1) + 1 + 1 + 1 + 1 + 1 + 1 + 1 + 1 + 1 + 1))) (k + 1) := fun i j hi hj => by
  by_cases he : i = k
  · subst he
    obtain ⟨n0, n1, n2, n3, n4, n5, n6⟩ := hn i hk
    have hz : i * 18 + 18 ≤ D.size := by omega
    revert j
    exact list18j (P := fun j => (setR D (i * 18) (.int .i64 ((11 * (i : Int) + 1))) (.int .i64 ((11 * (i : Int) + 1) + 1)) (.bool (((11 * (i : Int) + 1) + 1 + 1) % 3 == 0)) (.int .i64 ((11 * (i : Int) + 1) + 1 + 1 + 1)) (.int .i64 ((11 * (i : Int) + 1) + 1 + 1 + 1 + 1)) (.int .i64 ((11 * (i : Int) + 1) + 1 + 1 + 1 + 1 + 1)) (.int .i64 ((11 * (i : Int) + 1) + 1 + 1 + 1 + 1 + 1 + 1)) (.bool (((11 * (i : Int) + 1) + 1 + 1 + 1 + 1 + 1 + 1 + 1) % 3 == 0)) (.bool (((11 * (i : Int) + 1) + 1 + 1 + 1 + 1 + 1 + 1 + 1 + 1) % 3 == 0)) (.int .i64 ((11 * (i : Int) + 1) + 1 + 1 + 1 + 1 + 1 + 1 + 1 + 1 + 1)) (.int .i64 ((11 * (i : Int) + 1) + 1 + 1 + 1 + 1 + 1 + 1 + 1 + 1 + 1 + 1)))[i * 18 + j]? = (mkV (11 * (i : Int) + 1))[j]?) (setR_0 _ _ _ _ _ _ _ _ _ _ _ _ _ hz) (setR_1 _ _ _ _ _ _ _ _ _ _ _ _ _ hz) (setR_2 _ _ _ _ _ _ _ _ _ _ _ _ _ hz) (setR_3 _ _ _ _ _ _ _ _ _ _ _ _ _ hz) (setR_4 _ _ _ _ _ _ _ _ _ _ _ _ _ hz) ((setR_nil _ _ _ _ _ _ _ _ _ _ _ _ _ 5 (by omega)).trans n0) (setR_6 _ _ _ _ _ _ _ _ _ _ _ _ _ hz) (setR_7 _ _ _ _ _ _ _ _ _ _ _ _ _ hz) ((setR_nil _ _ _ _ _ _ _ _ _ _ _ _ _ 8 (by omega)).trans n1) ((setR_nil _ _ _ _ _ _ _ _ _ _ _ _ _ 9 (by omega)).trans n2) ((setR_nil _ _ _ _ _ _ _ _ _ _ _ _ _ 10 (by omega)).trans n3) (setR_11 _ _ _ _ _ _ _ _ _ _ _ _ _ hz) (setR_12 _ _ _ _ _ _ _ _ _ _ _ _ _ hz) (setR_13 _ _ _ _ _ _ _ _ _ _ _ _ _ hz) ((setR_nil _ _ _ _ _ _ _ _ _ _ _ _ _ 14 (by omega)).trans n4) ((setR_nil _ _ _ _ _ _ _ _ _ _ _ _ _ 15 (by omega)).trans n5) ((setR_nil _ _ _ _ _ _ _ _ _ _ _ _ _ 16 (by omega)).trans n6) (setR_17 _ _ _ _ _ _ _ _ _ _ _ _ _ hz)
  · rw [setR_other _ _ _ _ _ _ _ _ _ _ _ _ _ _ (by omega)]
    exact h i j (by omega) hj
theorem NilRow.step {D : Array Value} {k n : Nat} {v0 v1 v2 v3 v4 v6 v7 v11 v12 v13 v17 : Value} (hn : NilRow D n) : NilRow (setR D (k * 18) v0 v1 v2 v3 v4 v6 v7 v11 v12 v13 v17) n := fun i hi => by
  obtain ⟨n0, n1, n2, n3, n4, n5, n6⟩ := hn i hi
  by_cases he : i = k
  · subst he
    exact ⟨(setR_nil _ _ _ _ _ _ _ _ _ _ _ _ _ 5 (by omega)).trans n0, (setR_nil _ _ _ _ _ _ _ _ _ _ _ _ _ 8 (by omega)).trans n1, (setR_nil _ _ _ _ _ _ _ _ _ _ _ _ _ 9 (by omega)).trans n2, (setR_nil _ _ _ _ _ _ _ _ _ _ _ _ _ 10 (by omega)).trans n3, (setR_nil _ _ _ _ _ _ _ _ _ _ _ _ _ 14 (by omega)).trans n4, (setR_nil _ _ _ _ _ _ _ _ _ _ _ _ _ 15 (by omega)).trans n5, (setR_nil _ _ _ _ _ _ _ _ _ _ _ _ _ 16 (by omega)).trans n6⟩
  · exact ⟨(setR_other _ _ _ _ _ _ _ _ _ _ _ _ _ _ (by omega)).trans n0, (setR_other _ _ _ _ _ _ _ _ _ _ _ _ _ _ (by omega)).trans n1, (setR_other _ _ _ _ _ _ _ _ _ _ _ _ _ _ (by omega)).trans n2, (setR_other _ _ _ _ _ _ _ _ _ _ _ _ _ _ (by omega)).trans n3, (setR_other _ _ _ _ _ _ _ _ _ _ _ _ _ _ (by omega)).trans n4, (setR_other _ _ _ _ _ _ _ _ _ _ _ _ _ _ (by omega)).trans n5, (setR_other _ _ _ _ _ _ _ _ _ _ _ _ _ _ (by omega)).trans n6⟩

set_option maxHeartbeats 8000000 in
set_option maxRecDepth 20000 in
theorem markNew (g n cap : Nat) (C : Array Value) (w : World) (hC : Blk w g C 51) (hsz : C.size = cap * 18) (hn : n ≤ cap) (hn5 : n ≤ 5) (hnil : NilRow C n) :
    Calls Try.prog 27 #[.slice (some ⟨g, 0, none⟩) n cap, .int .i64 1] w fun e w' => e = .returned (.int .i64 (11 * (n : Int) + 1)) ∧ (∃ C', Blk w' g C' 51 ∧ C'.size = cap * 18 ∧ MkTo C' n) ∧ OnlyG w w' g := by
  go_enter Try.func27, Try.ntmps27
  go_wp2
  go_loopw [1, 5] (fun v i wr => ∃ (k : Nat) (D : Array Value), k ≤ n ∧ i = .int .i64 k ∧ v = .int .i64 (11 * (k : Int) + 1) ∧ Blk wr g D 51 ∧ D.size = cap * 18 ∧ NilRow D n ∧ MkTo D k ∧ OnlyG w wr g) (fun _ i _ => n - (intOf i).toNat)
  case atStart => exact ⟨0, C, by omega, rfl, rfl, hC, hsz, hnil, fun i j hi => absurd hi (by omega), OnlyG.refl _ _⟩
  case round =>
    obtain ⟨k, D, hk, rfl, rfl, hD, hDs, hDn, hMk, hOn⟩ := hrel
    have HH : Hid (Blk wr g D 51 ∧ D.size = cap * 18 ∧ NilRow D n ∧ MkTo D k ∧ OnlyG w wr g) := ⟨hD, hDs, hDn, hMk, hOn⟩
    clear hMk hOn
    by_cases hlt : k < n
    · obtain ⟨n0, n1, n2, n3, n4, n5, n6⟩ := hDn k hlt
      have ff := hD.free
      have c5 := (hD.cell (k * 18 + 3 + 2)).trans n0
      have c8 := (hD.cell (k * 18 + 6 + 2)).trans n1
      have c9 := (hD.cell (k * 18 + 9)).trans n2
      have c10 := (hD.cell (k * 18 + 10)).trans n3
      have c14 := (hD.cell (k * 18 + 14)).trans n4
      have c15 := (hD.cell (k * 18 + 15)).trans n5
      have c16 := (hD.cell (k * 18 + 16)).trans n6
      obtain ⟨x0, hx0⟩ : ∃ v, D[k * 18]? = some v := ⟨_, Array.getElem?_eq_getElem (by omega)⟩
      have g0 := (hD.cell (k * 18)).trans hx0
      clear hx0
      obtain ⟨x1, hx1⟩ : ∃ v, D[k * 18 + 1]? = some v := ⟨_, Array.getElem?_eq_getElem (by omega)⟩
      have g1 := (hD.cell (k * 18 + 1)).trans hx1
      clear hx1
      obtain ⟨x2, hx2⟩ : ∃ v, D[k * 18 + 2]? = some v := ⟨_, Array.getElem?_eq_getElem (by omega)⟩
      have g2 := (hD.cell (k * 18 + 2)).trans hx2
      clear hx2
      obtain ⟨x3, hx3⟩ : ∃ v, D[k * 18 + 3]? = some v := ⟨_, Array.getElem?_eq_getElem (by omega)⟩
      have g3 := (hD.cell (k * 18 + 3)).trans hx3
      clear hx3
      obtain ⟨x4, hx4⟩ : ∃ v, D[k * 18 + 3 + 1]? = some v := ⟨_, Array.getElem?_eq_getElem (by omega)⟩
      have g4 := (hD.cell (k * 18 + 3 + 1)).trans hx4
      clear hx4
      obtain ⟨x6, hx6⟩ : ∃ v, D[k * 18 + 6]? = some v := ⟨_, Array.getElem?_eq_getElem (by omega)⟩
      have g6 := (hD.cell (k * 18 + 6)).trans hx6
      clear hx6
      obtain ⟨x7, hx7⟩ : ∃ v, D[k * 18 + 6 + 1]? = some v := ⟨_, Array.getElem?_eq_getElem (by omega)⟩
      have g7 := (hD.cell (k * 18 + 6 + 1)).trans hx7
      clear hx7
      obtain ⟨x11, hx11⟩ : ∃ v, D[k * 18 + 11]? = some v := ⟨_, Array.getElem?_eq_getElem (by omega)⟩
      have g11 := (hD.cell (k * 18 + 11)).trans hx11
      clear hx11
      obtain ⟨x12, hx12⟩ : ∃ v, D[k * 18 + 12]? = some v := ⟨_, Array.getElem?_eq_getElem (by omega)⟩
      have g12 := (hD.cell (k * 18 + 12)).trans hx12
      clear hx12
      obtain ⟨x13, hx13⟩ : ∃ v, D[k * 18 + 13]? = some v := ⟨_, Array.getElem?_eq_getElem (by omega)⟩
      have g13 := (hD.cell (k * 18 + 13)).trans hx13
      clear hx13
      obtain ⟨x17, hx17⟩ : ∃ v, D[k * 18 + 17]? = some v := ⟨_, Array.getElem?_eq_getElem (by omega)⟩
      have g17 := (hD.cell (k * 18 + 17)).trans hx17
      clear hx17
      clear n0 n1 n2 n3 n4 n5 n6 hD hDs hDn
      have e1 : (0 : Int) ≤ (k : Int) := by omega
      have e2 : (k : Int) < (n : Int) := by omega
      go_wp2_with (first
          | (go_at_call 54; refine (markRecSlotS_nil _ _).mono ?_; rintro e w' ⟨rfl, hw'⟩; subst w')
          | (go_at_call 55; refine (markStringS_nil _ _).mono ?_; rintro e w' ⟨rfl, hw'⟩; subst w')
          | (go_at_call 56; refine (markIntS_nil _ _).mono ?_; rintro e w' ⟨rfl, hw'⟩; subst w')
          | (go_at_call 57; refine (markRecAckS_nil _ _).mono ?_; rintro e w' ⟨rfl, hw'⟩; subst w')
          | (go_at_call 28; refine (markRecMessageS_nil _ _).mono ?_; rintro e w' ⟨rfl, hw'⟩; subst w'))
      go_roundw
      case rel => exact ⟨k + 1, _, by omega, by go_num, by simp only [Value.int.injEq, true_and]; omega, (heap_setCell_same _ _ _ _ _ _ (heap_setCell_same _ _ _ _ _ _ (heap_setCell_same _ _ _ _ _ _ (heap_setCell_same _ _ _ _ _ _ (heap_setCell_same _ _ _ _ _ _ (heap_setCell_same _ _ _ _ _ _ (heap_setCell_same _ _ _ _ _ _ (heap_setCell_same _ _ _ _ _ _ (heap_setCell_same _ _ _ _ _ _ (heap_setCell_same _ _ _ _ _ _ (heap_setCell_same _ _ _ _ _ _ HH.out.1))))))))))), (setR_size _ _ _ _ _ _ _ _ _ _ _ _ _ ).trans HH.out.2.1, HH.out.2.2.1.step, HH.out.2.2.2.1.step HH.out.2.2.1 hlt HH.out.2.1 hn, (((((((((((HH.out.2.2.2.2.set _ _).set _ _).set _ _).set _ _).set _ _).set _ _).set _ _).set _ _).set _ _).set _ _).set _ _)⟩
      case measure => simp [intOf]; omega
    · have hkn : k = n := by omega
      subst hkn
      go_wp2
      go_ret
      exact ⟨rfl, ⟨D, HH.out.1, HH.out.2.1, HH.out.2.2.2.1⟩, HH.out.2.2.2.2⟩

set_option maxHeartbeats 8000000 in
set_option maxRecDepth 20000 in
theorem heldNew (g n cap : Nat) (D : Array Value) (w : World) (hD : Blk w g D 51) (hn5 : n ≤ 5) (hMk : MkTo D n) :
    Calls Try.prog 30 #[.slice (some ⟨g, 0, none⟩) n cap, .int .i64 1] w fun e w' => e = .returned (.int .i64 (11 * (n : Int) + 1)) ∧ Below w.heap.size w w' := by
  go_enter Try.func30, Try.ntmps30
  go_wp2
  go_loopw [1, 5] (fun v i wr => ∃ (k : Nat), k ≤ n ∧ i = .int .i64 k ∧ v = .int .i64 (11 * (k : Int) + 1) ∧ Below w.heap.size w wr) (fun _ i _ => n - (intOf i).toNat)
  case atStart => exact ⟨0, by omega, rfl, rfl, Below.refl _ _⟩
  case round =>
    obtain ⟨k, hk, rfl, rfl, hbel⟩ := hrel
    have hDw := hD.ext hbel
    by_cases hlt : k < n
    · have g0 : wr.cell? ⟨g, k * 18, none⟩ = some (.int .i64 ((11 * (k : Int) + 1))) := (hDw.cell (k * 18 + 0)).trans (hMk k 0 hlt (by omega))
      have g1 : wr.cell? ⟨g, k * 18 + 1, none⟩ = some (.int .i64 ((11 * (k : Int) + 1) + 1)) := (hDw.cell (k * 18 + 1)).trans (hMk k 1 hlt (by omega))
      have g2 : wr.cell? ⟨g, k * 18 + 2, none⟩ = some (.bool (((11 * (k : Int) + 1) + 1 + 1) % 3 == 0)) := (hDw.cell (k * 18 + 2)).trans (hMk k 2 hlt (by omega))
      have g3 : wr.cell? ⟨g, k * 18 + 3, none⟩ = some (.int .i64 ((11 * (k : Int) + 1) + 1 + 1 + 1)) := (hDw.cell (k * 18 + 3)).trans (hMk k 3 hlt (by omega))
      have g4 : wr.cell? ⟨g, k * 18 + 3 + 1, none⟩ = some (.int .i64 ((11 * (k : Int) + 1) + 1 + 1 + 1 + 1)) := (hDw.cell (k * 18 + 4)).trans (hMk k 4 hlt (by omega))
      have g5 : wr.cell? ⟨g, k * 18 + 3 + 2, none⟩ = some (.slice none 0 0) := (hDw.cell (k * 18 + 5)).trans (hMk k 5 hlt (by omega))
      have g6 : wr.cell? ⟨g, k * 18 + 6, none⟩ = some (.int .i64 ((11 * (k : Int) + 1) + 1 + 1 + 1 + 1 + 1)) := (hDw.cell (k * 18 + 6)).trans (hMk k 6 hlt (by omega))
      have g7 : wr.cell? ⟨g, k * 18 + 6 + 1, none⟩ = some (.int .i64 ((11 * (k : Int) + 1) + 1 + 1 + 1 + 1 + 1 + 1)) := (hDw.cell (k * 18 + 7)).trans (hMk k 7 hlt (by omega))
      have g8 : wr.cell? ⟨g, k * 18 + 6 + 2, none⟩ = some (.slice none 0 0) := (hDw.cell (k * 18 + 8)).trans (hMk k 8 hlt (by omega))
      have g9 : wr.cell? ⟨g, k * 18 + 9, none⟩ = some (.slice none 0 0) := (hDw.cell (k * 18 + 9)).trans (hMk k 9 hlt (by omega))
      have g10 : wr.cell? ⟨g, k * 18 + 10, none⟩ = some (.slice none 0 0) := (hDw.cell (k * 18 + 10)).trans (hMk k 10 hlt (by omega))
      have g11 : wr.cell? ⟨g, k * 18 + 11, none⟩ = some (.bool (((11 * (k : Int) + 1) + 1 + 1 + 1 + 1 + 1 + 1 + 1) % 3 == 0)) := (hDw.cell (k * 18 + 11)).trans (hMk k 11 hlt (by omega))
      have g12 : wr.cell? ⟨g, k * 18 + 12, none⟩ = some (.bool (((11 * (k : Int) + 1) + 1 + 1 + 1 + 1 + 1 + 1 + 1 + 1) % 3 == 0)) := (hDw.cell (k * 18 + 12)).trans (hMk k 12 hlt (by omega))
      have g13 : wr.cell? ⟨g, k * 18 + 13, none⟩ = some (.int .i64 ((11 * (k : Int) + 1) + 1 + 1 + 1 + 1 + 1 + 1 + 1 + 1 + 1)) := (hDw.cell (k * 18 + 13)).trans (hMk k 13 hlt (by omega))
      have g14 : wr.cell? ⟨g, k * 18 + 14, none⟩ = some (.slice none 0 0) := (hDw.cell (k * 18 + 14)).trans (hMk k 14 hlt (by omega))
      have g15 : wr.cell? ⟨g, k * 18 + 15, none⟩ = some (.slice none 0 0) := (hDw.cell (k * 18 + 15)).trans (hMk k 15 hlt (by omega))
      have g16 : wr.cell? ⟨g, k * 18 + 16, none⟩ = some (.slice none 0 0) := (hDw.cell (k * 18 + 16)).trans (hMk k 16 hlt (by omega))
      have g17 : wr.cell? ⟨g, k * 18 + 17, none⟩ = some (.int .i64 ((11 * (k : Int) + 1) + 1 + 1 + 1 + 1 + 1 + 1 + 1 + 1 + 1 + 1)) := (hDw.cell (k * 18 + 17)).trans (hMk k 17 hlt (by omega))
      clear hDw
      have e1 : (0 : Int) ≤ (k : Int) := by omega
      have e2 : (k : Int) < (n : Int) := by omega
      go_wp2_with (first
          | (go_at_call 59; refine (heldRecSlotS_nil _ _).mono ?_; rintro e w' ⟨rfl, hw'⟩; subst w')
          | (go_at_call 60; refine (heldStringS_nil _ _).mono ?_; rintro e w' ⟨rfl, hw'⟩; subst w')
          | (go_at_call 61; refine (heldIntS_nil _ _).mono ?_; rintro e w' ⟨rfl, hw'⟩; subst w')
          | (go_at_call 62; refine (heldRecAckS_nil _ _).mono ?_; rintro e w' ⟨rfl, hw'⟩; subst w')
          | (go_at_call 31; refine (heldRecMessageS_nil _ _).mono ?_; rintro e w' ⟨rfl, hw'⟩; subst w'))
      go_roundw
      case rel => exact ⟨k + 1, by omega, by go_num, by simp only [Value.int.injEq, true_and]; omega, hbel⟩
      case measure => simp [intOf]; omega
    · have hkn : k = n := by omega
      subst hkn
      go_wp2
      go_ret
      exact ⟨rfl, hbel⟩

set_option maxHeartbeats 4000000 in
set_option maxRecDepth 20000 in
theorem markRecorderS_nil (k : Int) (w : World) : Calls Try.prog 27 #[.slice none 0 0, .int .i64 k] w fun e w' => e = .returned (.int .i64 k) ∧ w' = w := by
  go_enter Try.func27, Try.ntmps27
  go_wp2
  go_loopw [1, 5] (fun v i wr => v = .int .i64 k ∧ i = .int .i64 0 ∧ wr = w) (fun _ _ _ => 0)
  case atStart => exact ⟨rfl, rfl, rfl⟩
  case round =>
    obtain ⟨rfl, rfl, rfl⟩ := hrel
    go_wp2
    go_ret
    exact ⟨rfl, rfl⟩
set_option maxHeartbeats 4000000 in
set_option maxRecDepth 20000 in
theorem heldRecorderS_nil (k : Int) (w : World) : Calls Try.prog 30 #[.slice none 0 0, .int .i64 k] w fun e w' => e = .returned (.int .i64 k) ∧ w' = w := by
  go_enter Try.func30, Try.ntmps30
  go_wp2
  go_loopw [1, 5] (fun v i wr => v = .int .i64 k ∧ i = .int .i64 0 ∧ wr = w) (fun _ _ _ => 0)
  case atStart => exact ⟨rfl, rfl, rfl⟩
  case round =>
    obtain ⟨rfl, rfl, rfl⟩ := hrel
    go_wp2
    go_ret
    exact ⟨rfl, rfl⟩
end Go.Proofs.Ytgjommccflfjaaa
