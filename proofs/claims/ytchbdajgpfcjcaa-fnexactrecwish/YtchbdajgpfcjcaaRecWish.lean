/-
  impl.RecWish, spec.RecWish.
-/
import Derived.Test.YtchbdajgpfcjcaaImplWish
import Derived.Test.YtchbdajgpfcjcaaCopyRec
import Derived.Test.YtchbdajgpfcjcaaImplValid
import Derived.Test.YtchbdajgpfcjcaaSpecValid
namespace Go.Proofs.Ytchbdajgpfcjcaa
open Go.ChangeShapes Go.WideShapes Go.ChangeAt Go.RowKit
set_option linter.unusedVariables false
set_option linter.unusedSimpArgs false

/-- nothing -/
def rc0 : Rc := ⟨0, 0, false, 0, 0, [], 0, 0, [], [], [], false, false, 0, [], [], [], 0⟩
def rp0 : RcP := ⟨none, 0, none, 0, none, 0, none, 0, none, 0, none, 0, none, 0⟩
theorem rc0_cells : rcV rc0 rp0 = #[.int .i64 0, .int .i64 0, .bool false, .int .i64 0, .int .i64 0, .slice none 0 0, .int .i64 0, .int .i64 0, .slice none 0 0, .slice none 0 0, .slice none 0 0, .bool false, .bool false, .int .i64 0, .slice none 0 0, .slice none 0 0, .slice none 0 0, .int .i64 0] := rfl
theorem rowC_nil (B : Nat) (w : World) (col : Nat → Nat) (t : Nat) (e : TypeId) (k : Nat) : RowC B w col t e k none 0 0 [] := ⟨World.ownsRow_nil _ _ _ _, fun x hx => by simp at hx⟩
theorem rc0_has (B : Nat) (w : World) (col : Nat → Nat) : RcHas B w rc0 rp0 ⟨[], []⟩ col :=
  ⟨rowC_nil _ _ _ _ _ _, rowC_nil _ _ _ _ _ _, rowC_nil _ _ _ _ _ _, rfl, ⟨fun m hm => absurd hm (by simp), List.Pairwise.nil⟩, rowC_nil _ _ _ _ _ _, rowC_nil _ _ _ _ _ _, rowC_nil _ _ _ _ _ _, rowC_nil _ _ _ _ _ _, rfl, ⟨fun m hm => absurd hm (by simp), List.Pairwise.nil⟩,
    ⟨fun i s hs => by simp [rc0] at hs, fun i s hs => by simp [rc0] at hs, fun i s hs => by simp [rc0] at hs, fun i s hs => by simp [rc0] at hs, fun i s hs => by simp [rc0] at hs, fun i s hs => by simp [rc0] at hs, fun i s hs => by simp [rc0] at hs⟩⟩
def recWish (r : Rc) (t : ByteArray) : Rc := if validB r = true then (if r.up = true then wishR r t else r) else rc0
theorem recWish_no {r : Rc} {t : ByteArray} (h : validB r = false) : recWish r t = rc0 := by simp [recWish, h]
theorem recWish_down {r : Rc} {t : ByteArray} (h : validB r = true) (hu : r.up = false) : recWish r t = r := by simp [recWish, h, hu]
theorem recWish_up {r : Rc} {t : ByteArray} (h : validB r = true) (hu : r.up = true) : recWish r t = wishR r t := by simp [recWish, h, hu]
/-- a recorder of its own memory is answered -/
def APost (w : World) (r' : Rc) (e : Ending) (w' : World) : Prop := ∃ p' X' col', e = .returned (.agg (rcV r' p')) ∧ RcHas w.heap.size w' r' p' X' col' ∧ Below w.heap.size w w'
theorem RcHas.far {B : Nat} {w : World} {r : Rc} {p : RcP} {X : RcX} {col : Nat → Nat} (h : RcHas B w r p X col) {g : Nat} (hg : g < B) (cs : Array Value) : RcHas B (w.setRow g cs) r p X col :=
  h.same fun b hb _ _ => setRow_other w g b cs (by omega)
theorem wish_small {r : Rc} {t : ByteArray} (h : RcSmall r) : RcSmall (wishR r t) := by
  unfold wishR
  split
  · rename_i hb
    refine ⟨h.lS, h.lD, h.lH, ?_, h.lY, h.lB, h.lA, h.nH, h.nA⟩
    simp only [wishB, Bool.and_eq_true, decide_eq_true_eq] at hb
    have := hb.1.1.2
    simp only [List.length_append, List.length_cons, List.length_nil]
    omega
  · exact h

set_option maxHeartbeats 16000000 in
set_option maxRecDepth 20000 in
theorem implRecWish (B : Nat) (r : Rc) (p : RcP) (X : RcX) (col : Nat → Nat) (t : ByteArray) (w : World) (hS : RcSmall r) (ht : t.size ≤ 1048576) (h : RcHas B w r p X col) :
    Calls Try.prog 37 #[.agg (rcV r p), .string t] w (APost w (recWish r t)) := by
  have RD := hid h
  have HS := hid hS
  clear h hS
  obtain ⟨V, hV⟩ : ∃ V, V = (w.alloc (.cells (rcV r p) 44)).alloc (.cells #[.int .i64 0, .int .i64 0, .bool false, .int .i64 0, .int .i64 0, .slice none 0 0, .int .i64 0, .int .i64 0, .slice none 0 0, .slice none 0 0, .slice none 0 0, .bool false, .bool false, .int .i64 0, .slice none 0 0, .slice none 0 0, .slice none 0 0, .int .i64 0] 44) := ⟨_, rfl⟩
  have BV := hid (show Below w.heap.size w V by rw [hV]; exact ext_alloc (ext_alloc (Below.refl _ _) _) _)
  have K1 := hid (show Blk V w.heap.size (rcV r p) 44 by rw [hV]; exact (Blk.new _ _ _).alloc _)
  have K2 := hid (show Blk V (w.heap.size + 1) #[.int .i64 0, .int .i64 0, .bool false, .int .i64 0, .int .i64 0, .slice none 0 0, .int .i64 0, .int .i64 0, .slice none 0 0, .slice none 0 0, .slice none 0 0, .bool false, .bool false, .int .i64 0, .slice none 0 0, .slice none 0 0, .slice none 0 0, .int .i64 0] 44 by rw [hV]; exact Blk.new' _ _ (by simp))
  have SZ := hid (show w.heap.size + 1 < V.heap.size from K2.out.lt)
  have k1 := K1.out
  rw [hV] at k1
  go_enter Try.func37, Try.ntmps37
  go_wp2_with ((with_reducible refine wpList_load_rec w.heap.size (rcV r p) rfl ?_ ?_ ?_); (· rfl); (· exact k1))
  rw [← hV]
  clear hV k1
  refine (implValid r p _ (hid RD.out.t.len.2) (RD.out.ext BV.out).at).mono ?_
  rintro e w1 ⟨rfl, hb1⟩
  have B1 := hid (ext_trans BV.out hb1)
  have k1 := K1.out.ext hb1
  have k2 := K2.out.ext hb1
  have K2b := hid k2
  have SZ1 := hid (show w.heap.size + 1 < w1.heap.size from k2.lt)
  clear hb1 K1 K2 BV SZ
  cases hv : validB r
  case false =>
    have HN := hid (recWish_no (t := t) hv)
    go_wp2_with (first
      | ((with_reducible refine wpList_build_to (ty := 44) #[.int .i64 0, .int .i64 0, .bool false, .int .i64 0, .int .i64 0, .slice none 0 0, .int .i64 0, .int .i64 0, .slice none 0 0, .slice none 0 0, .slice none 0 0, .bool false, .bool false, .int .i64 0, .slice none 0 0, .slice none 0 0, .slice none 0 0, .int .i64 0] ?_ ?_); (· kernel_rfl))
      | ((with_reducible refine wpList_store_rec_at (w.heap.size + 1) #[.int .i64 0, .int .i64 0, .bool false, .int .i64 0, .int .i64 0, .slice none 0 0, .int .i64 0, .int .i64 0, .slice none 0 0, .slice none 0 0, .slice none 0 0, .bool false, .bool false, .int .i64 0, .slice none 0 0, .slice none 0 0, .slice none 0 0, .int .i64 0] #[.int .i64 0, .int .i64 0, .bool false, .int .i64 0, .int .i64 0, .slice none 0 0, .int .i64 0, .int .i64 0, .slice none 0 0, .slice none 0 0, .slice none 0 0, .bool false, .bool false, .int .i64 0, .slice none 0 0, .slice none 0 0, .slice none 0 0, .int .i64 0] rfl rfl ?_ ?_ ?_ ?_ ?_); (· rfl); (· rfl); (· exact k2); (· simp [Value.oneCell'])))
    have hz := setRow_heap _ (w.heap.size + 1) _ #[.int .i64 0, .int .i64 0, .bool false, .int .i64 0, .int .i64 0, .slice none 0 0, .int .i64 0, .int .i64 0, .slice none 0 0, .slice none 0 0, .slice none 0 0, .bool false, .bool false, .int .i64 0, .slice none 0 0, .slice none 0 0, .slice none 0 0, .int .i64 0] _ _ k2
    refine ret_cell (ty := 44) Try.results37 (w.heap.size + 1) #[.int .i64 0, .int .i64 0, .bool false, .int .i64 0, .int .i64 0, .slice none 0 0, .int .i64 0, .int .i64 0, .slice none 0 0, .slice none 0 0, .slice none 0 0, .bool false, .bool false, .int .i64 0, .slice none 0 0, .slice none 0 0, .slice none 0 0, .int .i64 0] _ ?_ ?_ hz Try.underlying44 rfl (by kernel_rfl) ?_
    · rfl
    · rfl
    rw [HN.out]
    exact ⟨rp0, ⟨[], []⟩, fun _ => 0, rfl, rc0_has _ _ _, below_setRow' B1.out (by omega) _⟩
  go_wp2_with ((with_reducible refine wpList_load_rec w.heap.size (rcV r p) rfl ?_ ?_ ?_); (· rfl); (· exact k1))
  refine (copyRec B r p X col _ HS.out (RD.out.ext B1.out)).mono ?_
  rintro e w2 ⟨p2, X2, col2, rfl, has2, hb2⟩
  have HAS := hid has2.fresh
  have B2 := hid (ext_trans B1.out hb2)
  have K2c := hid (K2b.out.ext hb2)
  have SZ2 := hid hb2.size
  clear has2 hb2 k1 k2 K2b
  obtain ⟨W, hW⟩ : ∃ W, W = w2.alloc (.cells (rcV r p2) 44) := ⟨_, rfl⟩
  have EW := hid (show Below w2.heap.size w2 W by rw [hW]; exact ext_alloc (Below.refl _ _) _)
  have K5 := hid (show Blk W w2.heap.size (rcV r p2) 44 by rw [hW]; exact Blk.new _ _ _)
  have K2d := hid (K2c.out.ext EW.out)
  have k5 := K5.out
  have k2 := K2d.out
  rw [hW] at k5 k2
  have c2 := k5.cell 2
  cases hu : r.up
  case false =>
    have HN := hid (recWish_down (t := t) hv hu)
    have c2' : (w2.alloc (.cells (rcV r p2) 44)).cell? ⟨w2.heap.size, 2, none⟩ = some (.bool false) := by rw [c2]; simp [hu]
    clear c2
    have HU := hid hu
    clear hu
    go_wp2_with (first
      | ((with_reducible refine wpList_store_rec (rcV r p2) rfl ?_ ?_ ?_ ?_ ?_); (· rfl); (· rfl); (· rfl); (· simp [Value.oneCell']))
      | ((with_reducible refine wpList_load_rec w2.heap.size (rcV r p2) rfl ?_ ?_ ?_); (· rfl); (· exact k5))
      | ((with_reducible refine wpList_store_rec_at (w.heap.size + 1) #[.int .i64 0, .int .i64 0, .bool false, .int .i64 0, .int .i64 0, .slice none 0 0, .int .i64 0, .int .i64 0, .slice none 0 0, .slice none 0 0, .slice none 0 0, .bool false, .bool false, .int .i64 0, .slice none 0 0, .slice none 0 0, .slice none 0 0, .int .i64 0] (rcV r p2) rfl rfl ?_ ?_ ?_ ?_ ?_); (· rfl); (· rfl); (· exact k2); (· simp [Value.oneCell'])))
    have hz := setRow_heap _ (w.heap.size + 1) _ (rcV r p2) _ _ k2
    refine ret_cell (ty := 44) Try.results37 (w.heap.size + 1) (rcV r p2) _ ?_ ?_ hz Try.underlying44 rfl (by kernel_rfl) ?_
    · rfl
    · rfl
    rw [HN.out]
    exact ⟨p2, X2, _, rfl, (((HAS.out.ext (ext_alloc (Below.refl _ _) _)).far (by have := SZ1.out; omega) _).low (by have := SZ1.out; omega)), below_setRow' (ext_alloc B2.out _) (by omega) _⟩
  have HN := hid (recWish_up (t := t) hv hu)
  have c2' : (w2.alloc (.cells (rcV r p2) 44)).cell? ⟨w2.heap.size, 2, none⟩ = some (.bool true) := by rw [c2]; simp [hu]
  clear c2
  have HU := hid hu
  clear hu
  go_wp2_with ((with_reducible refine wpList_store_rec (rcV r p2) rfl ?_ ?_ ?_ ?_ ?_); (· rfl); (· rfl); (· rfl); (· simp [Value.oneCell']))
  rw [← hW]
  clear hW c2' k5 k2
  refine (implWish0 w1.heap.size w2.heap.size r p2 X2 _ t _ SZ2.out K5.out (by rw [colF_new (Nat.le_refl _)]; omega) hv ht (HAS.out.ext EW.out)).mono ?_
  rintro e w3 ⟨⟨v3, rfl⟩, p3, col3, k3, has3, _, hb3⟩
  have H3 := hid has3
  have B3 := hid (show Below w.heap.size w w3 from (ext_trans B2.out EW.out).trans (hb3.mono (by have := SZ1.out; omega)))
  have k2 := K2d.out.below hb3 SZ1.out
  clear has3 hb3
  go_wp2_with (first
    | ((with_reducible refine wpList_load_rec w2.heap.size (rcV (wishR r t) p3) rfl ?_ ?_ ?_); (· rfl); (· exact k3))
    | ((with_reducible refine wpList_store_rec_at (w.heap.size + 1) #[.int .i64 0, .int .i64 0, .bool false, .int .i64 0, .int .i64 0, .slice none 0 0, .int .i64 0, .int .i64 0, .slice none 0 0, .slice none 0 0, .slice none 0 0, .bool false, .bool false, .int .i64 0, .slice none 0 0, .slice none 0 0, .slice none 0 0, .int .i64 0] (rcV (wishR r t) p3) rfl rfl ?_ ?_ ?_ ?_ ?_); (· rfl); (· rfl); (· exact k2); (· simp [Value.oneCell'])))
  have hz := setRow_heap _ (w.heap.size + 1) _ (rcV (wishR r t) p3) _ _ k2
  refine ret_cell (ty := 44) Try.results37 (w.heap.size + 1) (rcV (wishR r t) p3) _ ?_ ?_ hz Try.underlying44 rfl (by kernel_rfl) ?_
  · rfl
  · rfl
  rw [HN.out]
  exact ⟨p3, X2, _, rfl, (H3.out.far SZ1.out _).low (by have := SZ1.out; omega), below_setRow' B3.out (by omega) _⟩

set_option maxHeartbeats 16000000 in
set_option maxRecDepth 20000 in
theorem specRecWish (B : Nat) (r : Rc) (p : RcP) (X : RcX) (col : Nat → Nat) (t : ByteArray) (w : World) (hS : RcSmall r) (ht : t.size ≤ 1048576) (h : RcHas B w r p X col) :
    Calls Try.prog 36 #[.agg (rcV r p), .string t] w (APost w (recWish r t)) := by
  have RD := hid h
  have HS := hid hS
  clear h hS
  obtain ⟨V, hV⟩ : ∃ V, V = (w.alloc (.cells (rcV r p) 44)).alloc (.cells #[.int .i64 0, .int .i64 0, .bool false, .int .i64 0, .int .i64 0, .slice none 0 0, .int .i64 0, .int .i64 0, .slice none 0 0, .slice none 0 0, .slice none 0 0, .bool false, .bool false, .int .i64 0, .slice none 0 0, .slice none 0 0, .slice none 0 0, .int .i64 0] 44) := ⟨_, rfl⟩
  have BV := hid (show Below w.heap.size w V by rw [hV]; exact ext_alloc (ext_alloc (Below.refl _ _) _) _)
  have K1 := hid (show Blk V w.heap.size (rcV r p) 44 by rw [hV]; exact (Blk.new _ _ _).alloc _)
  have K2 := hid (show Blk V (w.heap.size + 1) #[.int .i64 0, .int .i64 0, .bool false, .int .i64 0, .int .i64 0, .slice none 0 0, .int .i64 0, .int .i64 0, .slice none 0 0, .slice none 0 0, .slice none 0 0, .bool false, .bool false, .int .i64 0, .slice none 0 0, .slice none 0 0, .slice none 0 0, .int .i64 0] 44 by rw [hV]; exact Blk.new' _ _ (by simp))
  have SZ := hid (show w.heap.size + 1 < V.heap.size from K2.out.lt)
  have k1 := K1.out
  rw [hV] at k1
  go_enter Try.func36, Try.ntmps36
  go_wp2_with ((with_reducible refine wpList_load_rec w.heap.size (rcV r p) rfl ?_ ?_ ?_); (· rfl); (· exact k1))
  rw [← hV]
  clear hV k1
  refine (specValid r p _ HS.out (RD.out.ext BV.out).at).mono ?_
  rintro e w1 ⟨rfl, hb1⟩
  have B1 := hid (ext_trans BV.out hb1)
  have k1 := K1.out.ext hb1
  have k2 := K2.out.ext hb1
  have K2b := hid k2
  have SZ1 := hid (show w.heap.size + 1 < w1.heap.size from k2.lt)
  clear hb1 K1 K2 BV SZ
  cases hv : validB r
  case false =>
    have HN := hid (recWish_no (t := t) hv)
    go_wp2_with (first
      | ((with_reducible refine wpList_build_to (ty := 44) #[.int .i64 0, .int .i64 0, .bool false, .int .i64 0, .int .i64 0, .slice none 0 0, .int .i64 0, .int .i64 0, .slice none 0 0, .slice none 0 0, .slice none 0 0, .bool false, .bool false, .int .i64 0, .slice none 0 0, .slice none 0 0, .slice none 0 0, .int .i64 0] ?_ ?_); (· kernel_rfl))
      | ((with_reducible refine wpList_store_rec_at (w.heap.size + 1) #[.int .i64 0, .int .i64 0, .bool false, .int .i64 0, .int .i64 0, .slice none 0 0, .int .i64 0, .int .i64 0, .slice none 0 0, .slice none 0 0, .slice none 0 0, .bool false, .bool false, .int .i64 0, .slice none 0 0, .slice none 0 0, .slice none 0 0, .int .i64 0] #[.int .i64 0, .int .i64 0, .bool false, .int .i64 0, .int .i64 0, .slice none 0 0, .int .i64 0, .int .i64 0, .slice none 0 0, .slice none 0 0, .slice none 0 0, .bool false, .bool false, .int .i64 0, .slice none 0 0, .slice none 0 0, .slice none 0 0, .int .i64 0] rfl rfl ?_ ?_ ?_ ?_ ?_); (· rfl); (· rfl); (· exact k2); (· simp [Value.oneCell'])))
    have hz := setRow_heap _ (w.heap.size + 1) _ #[.int .i64 0, .int .i64 0, .bool false, .int .i64 0, .int .i64 0, .slice none 0 0, .int .i64 0, .int .i64 0, .slice none 0 0, .slice none 0 0, .slice none 0 0, .bool false, .bool false, .int .i64 0, .slice none 0 0, .slice none 0 0, .slice none 0 0, .int .i64 0] _ _ k2
    refine ret_cell (ty := 44) Try.results36 (w.heap.size + 1) #[.int .i64 0, .int .i64 0, .bool false, .int .i64 0, .int .i64 0, .slice none 0 0, .int .i64 0, .int .i64 0, .slice none 0 0, .slice none 0 0, .slice none 0 0, .bool false, .bool false, .int .i64 0, .slice none 0 0, .slice none 0 0, .slice none 0 0, .int .i64 0] _ ?_ ?_ hz Try.underlying44 rfl (by kernel_rfl) ?_
    · rfl
    · rfl
    rw [HN.out]
    exact ⟨rp0, ⟨[], []⟩, fun _ => 0, rfl, rc0_has _ _ _, below_setRow' B1.out (by omega) _⟩
  have c2 := k1.cell 2
  cases hu : r.up
  case false =>
    have HN := hid (recWish_down (t := t) hv hu)
    have c2' : w1.cell? ⟨w.heap.size, 2, none⟩ = some (.bool false) := by rw [c2]; simp [hu]
    clear c2
    have HU := hid hu
    clear hu
    go_wp2_with ((with_reducible refine wpList_load_rec w.heap.size (rcV r p) rfl ?_ ?_ ?_); (· rfl); (· exact k1))
    refine (specCopy B r p X col _ HS.out (RD.out.ext B1.out)).mono ?_
    rintro e w2 ⟨p2, X2, col2, rfl, has2, hb2⟩
    have HAS := hid has2
    have B2 := hid (ext_trans B1.out hb2)
    have k2 := K2b.out.ext hb2
    clear has2 hb2 k1 c2'
    go_wp2_with ((with_reducible refine wpList_store_rec_at (w.heap.size + 1) #[.int .i64 0, .int .i64 0, .bool false, .int .i64 0, .int .i64 0, .slice none 0 0, .int .i64 0, .int .i64 0, .slice none 0 0, .slice none 0 0, .slice none 0 0, .bool false, .bool false, .int .i64 0, .slice none 0 0, .slice none 0 0, .slice none 0 0, .int .i64 0] (rcV r p2) rfl rfl ?_ ?_ ?_ ?_ ?_); (· rfl); (· rfl); (· exact k2); (· simp [Value.oneCell']))
    have hz := setRow_heap _ (w.heap.size + 1) _ (rcV r p2) _ _ k2
    refine ret_cell (ty := 44) Try.results36 (w.heap.size + 1) (rcV r p2) _ ?_ ?_ hz Try.underlying44 rfl (by kernel_rfl) ?_
    · rfl
    · rfl
    rw [HN.out]
    exact ⟨p2, X2, _, rfl, (HAS.out.far SZ1.out _).low (by have := SZ1.out; omega), below_setRow' B2.out (by omega) _⟩
  have HN := hid (recWish_up (t := t) hv hu)
  have c2' : w1.cell? ⟨w.heap.size, 2, none⟩ = some (.bool true) := by rw [c2]; simp [hu]
  clear c2
  have HU := hid hu
  clear hu
  go_wp2_with ((with_reducible refine wpList_load_rec w.heap.size (rcV r p) rfl ?_ ?_ ?_); (· rfl); (· exact k1))
  refine (specCopy B r p X col _ HS.out (RD.out.ext B1.out)).mono ?_
  rintro e w2 ⟨p2, X2, col2, rfl, has2, hb2⟩
  have HAS := hid has2
  have B2 := hid (ext_trans B1.out hb2)
  have K2c := hid (K2b.out.ext hb2)
  have SZ2 := hid hb2.size
  clear has2 hb2 k1 k2 K2b c2'
  go_wp2_with fail
  refine (specWish0 w1.heap.size r p2 X2 _ t _ SZ2.out (valid_knows hv).1 (valid_knows hv).2.1 HS.out.lW ht HAS.out).mono ?_
  rintro e w3 ⟨p3, col3, rfl, has3, hb3⟩
  have H3 := hid has3
  have B3 := hid (show Below w.heap.size w w3 from B2.out.trans (hb3.mono (by have := SZ1.out; omega)))
  have K2d := hid (K2c.out.below hb3 SZ1.out)
  have SZ3 := hid (show w1.heap.size ≤ w3.heap.size from Nat.le_trans SZ2.out hb3.size)
  clear has3 hb3 K2c
  go_wp2_with fail
  refine (specCopy w1.heap.size (wishR r t) p3 X2 col3 _ (wish_small HS.out) H3.out).mono ?_
  rintro e w4 ⟨p4, X4, col4, rfl, has4, hb4⟩
  have H4 := hid has4
  have B4 := hid (ext_trans B3.out hb4)
  have k2 := K2d.out.ext hb4
  clear has4 hb4
  go_wp2_with ((with_reducible refine wpList_store_rec_at (w.heap.size + 1) #[.int .i64 0, .int .i64 0, .bool false, .int .i64 0, .int .i64 0, .slice none 0 0, .int .i64 0, .int .i64 0, .slice none 0 0, .slice none 0 0, .slice none 0 0, .bool false, .bool false, .int .i64 0, .slice none 0 0, .slice none 0 0, .slice none 0 0, .int .i64 0] (rcV (wishR r t) p4) rfl rfl ?_ ?_ ?_ ?_ ?_); (· rfl); (· rfl); (· exact k2); (· simp [Value.oneCell']))
  have hz := setRow_heap _ (w.heap.size + 1) _ (rcV (wishR r t) p4) _ _ k2
  refine ret_cell (ty := 44) Try.results36 (w.heap.size + 1) (rcV (wishR r t) p4) _ ?_ ?_ hz Try.underlying44 rfl (by kernel_rfl) ?_
  · rfl
  · rfl
  rw [HN.out]
  exact ⟨p4, X4, _, rfl, (H4.out.far (by have := SZ1.out; have := SZ3.out; omega) _).low (by have := SZ1.out; have := SZ3.out; omega), below_setRow' B4.out (by omega) _⟩
end Go.Proofs.Ytchbdajgpfcjcaa
