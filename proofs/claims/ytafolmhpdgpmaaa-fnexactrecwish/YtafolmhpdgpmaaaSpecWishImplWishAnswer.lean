import Derived.Test.YtafolmhpdgpmaaaWishDef
import Derived.Test.YtafolmhpdgpmaaaSpecCopyRec
import Derived.Test.YtafolmhpdgpmaaaCopyRec
/-
  spec.l3Wish.
-/
namespace Go.Proofs.Ytafolmhpdgpmaaa
open Go.ChangeShapes Go.WideShapes Go.ChangeAt Go.RowKit
set_option linter.unusedVariables false
set_option linter.unusedSimpArgs false

theorem wpList_slice_hi {ops : Array Oper} {rest : List Oper} {dst : Option Tmp} {x y : Operand} {τ : TypeId} {pos : String} {after : Array Edge} {gd : Option (Nat × Bool)} {a : Act} {w : World} {Q : Exit → Act → World → Prop}
    (aD : Option Addr) (n c k : Nat) (hw : Region.wanted { dst := dst, op := .slice 24 x none (some y) none, type := τ, pos := pos, after := after, guard := gd } (yielded ops a.tmps) = true)
    (hx : a.eval x = .slice aD n c) (hy : a.eval y = .int .i64 (k : Int)) (hk : k ≤ c) (ha : aD = none → c = 0)
    (h : wpList Try.prog ops Q rest (a.put dst (.slice aD k c)) w) :
    wpList Try.prog ops Q ({ dst := dst, op := .slice 24 x none (some y) none, type := τ, pos := pos, after := after, guard := gd } :: rest) a w :=
  wpList_step fun K hK => by
    rw [if_pos hw]
    have e1 : (0 : Int) ≤ (k : Int) := by omega
    have e2 : (k : Int) ≤ (c : Int) := by omega
    have hK' := hid (hK _ _ h)
    clear hK h hw
    cases aD with
    | none =>
      have e9 := ha rfl
      subst e9
      have e8 : k = 0 := by omega
      subst e8
      simp only [Oper.wp, execOp, hx, hy, Option.map_some, Option.map_none]
      go_simp
      exact hK'.out
    | some ad =>
      simp only [Oper.wp, execOp, hx, hy, Option.map_some, Option.map_none]
      go_simp
      exact hK'.out

theorem wish_no1 {r : Rc} {t : ByteArray} (h : (t.size : Int) < 1) : wishR r t = r := wishR_no (by simp only [wishB, inB_low (show ¬ (1 : Int) ≤ (t.size : Int) by omega), Bool.false_and])
theorem wish_no2 {r : Rc} {t : ByteArray} (h : 100 < (t.size : Int)) : wishR r t = r := wishR_no (by simp only [wishB, inB_high (show ¬ (t.size : Int) ≤ 100 by omega), Bool.false_and])
theorem wish_no3 {r : Rc} {t : ByteArray} (h : (20 : Int) ≤ (r.wish.length : Int)) : wishR r t = r := wishR_no (by simp only [wishB, decide_eq_false (show ¬ r.wish.length < 20 by omega), Bool.and_false, Bool.false_and])
theorem wish_no4 {r : Rc} {t : ByteArray} (h : hasSlot (r.ds.take r.dk.toNat) t = true) : wishR r t = r := wishR_no (by simp only [wishB, h, Bool.not_true, Bool.and_false, Bool.false_and])
theorem wish_no5 {r : Rc} {t : ByteArray} (h : hasB r.wish t = true) : wishR r t = r := wishR_no (by simp only [wishB, h, Bool.not_true, Bool.and_false])
theorem wish_yes {r : Rc} {t : ByteArray} (h1 : ¬ (t.size : Int) < 1) (h2 : ¬ 100 < (t.size : Int)) (h3 : ¬ (20 : Int) ≤ (r.wish.length : Int)) (h4 : hasSlot (r.ds.take r.dk.toNat) t = false) (h5 : hasB r.wish t = false) : wishR r t = { r with wish := r.wish ++ [t] } :=
  wishR_yes (by simp only [wishB, inB_yes (show (1 : Int) ≤ (t.size : Int) by omega) (show (t.size : Int) ≤ 100 by omega), decide_eq_true (show r.wish.length < 20 by omega), h4, h5]; rfl)
theorem RcHas.setRow {B : Nat} {w : World} {r : Rc} {p : RcP} {X : RcX} {col : Nat → Nat} (h : RcHas B w r p X col) {g : Nat} (hg : 8 < col g) (cs : Array Value) : RcHas B (w.setRow g cs) r p X col :=
  h.same fun b _ _ hc => setRow_other w g b cs (fun e => by rw [e] at hc; omega)
theorem RcHas.setCell {B : Nat} {w : World} {r : Rc} {p : RcP} {X : RcX} {col : Nat → Nat} (h : RcHas B w r p X col) {q : Addr} (hg : 8 < col q.block) (v : Value) : RcHas B (w.setCell q v) r p X col :=
  h.same fun b _ _ hc => heap_setCell_other w q b v (fun e => by rw [e] at hc; omega)

theorem below_grow {B : Nat} {a b c : World} {row : Option Nat} (h : Below B a b) (k : b.grownBy c row) (hr : ∀ j, row = some j → B ≤ j) (hB : B ≤ b.heap.size) : Below B a c :=
  h.trans ⟨k.os, k.tape, k.output, k.size, fun i hi => k.block i (by omega) (fun e => by have := hr i e.symm; omega)⟩
theorem hasB_yes {l : List ByteArray} {t u : ByteArray} {k : Nat} (hs : l[k]? = some u) (h : sameB u t = true) : hasB l t = true := List.any_eq_true.2 ⟨u, List.mem_of_getElem? hs, by rw [sameB_comm]; exact h⟩
theorem hasB_no {l : List ByteArray} {t : ByteArray} (h : ∀ (i : Nat) u, i < l.length → l[i]? = some u → sameB u t = false) : hasB l t = false := by
  unfold hasB
  rw [List.any_eq_false]
  intro u hu
  obtain ⟨i, hi, rfl⟩ := List.getElem_of_mem hu
  rw [sameB_comm, h i _ hi (List.getElem?_eq_getElem hi)]
  simp
/-- a recorder is answered, its lists in blocks of their own -/
def RPost (B : Nat) (w : World) (r' : Rc) (X : RcX) (e : Ending) (w' : World) : Prop := ∃ p' col', e = .returned (.agg (rcV r' p')) ∧ RcHas B w' r' p' X col' ∧ Below B w w'

set_option maxHeartbeats 16000000 in
set_option maxRecDepth 20000 in
theorem specWish0 (B : Nat) (r : Rc) (p : RcP) (X : RcX) (col : Nat → Nat) (t : ByteArray) (w : World) (hB : B ≤ w.heap.size) (hk0 : 0 ≤ r.dk) (hk1 : r.dk ≤ r.ds.length) (hw : r.wish.length ≤ 1048576) (ht : t.size ≤ 1048576) (h : RcHas B w r p X col) :
    Calls Try.prog 40 #[.agg (rcV r p), .string t] w (RPost B w (wishR r t) X) := by
  obtain ⟨aS, cS, aD, cD, aH, cH, aW, cW, aY, cY, aB, cB, aA, cA⟩ := p
  have RD := hid h.fresh
  have HBs := hid hB
  obtain ⟨k, hk9⟩ : ∃ k : Nat, r.dk = (k : Int) := ⟨r.dk.toNat, by omega⟩
  have hkn : k ≤ r.ds.length := by omega
  have TK := hid (show r.dk.toNat = k by omega)
  have HK := hid hk9
  have hkc : k ≤ cD := Nat.le_trans hkn RD.out.d.len.2
  clear h hk0 hk1 hB
  obtain ⟨V, hV⟩ : ∃ V, V = (w.alloc (.cells (rcV r ⟨aS, cS, aD, cD, aH, cH, aW, cW, aY, cY, aB, cB, aA, cA⟩) 44)).alloc (.cells #[.int .i64 0, .int .i64 0, .bool false, .int .i64 0, .int .i64 0, .slice none 0 0, .int .i64 0, .int .i64 0, .slice none 0 0, .slice none 0 0, .slice none 0 0, .bool false, .bool false, .int .i64 0, .slice none 0 0, .slice none 0 0, .slice none 0 0, .int .i64 0] 44) := ⟨_, rfl⟩
  have BV := hid (show Below w.heap.size w V by rw [hV]; exact ext_alloc (ext_alloc (Below.refl _ _) _) _)
  have K1 := hid (show Blk V w.heap.size (rcV r ⟨aS, cS, aD, cD, aH, cH, aW, cW, aY, cY, aB, cB, aA, cA⟩) 44 by rw [hV]; exact (Blk.new _ _ _).alloc _)
  have K2 := hid (show Blk V (w.heap.size + 1) #[.int .i64 0, .int .i64 0, .bool false, .int .i64 0, .int .i64 0, .slice none 0 0, .int .i64 0, .int .i64 0, .slice none 0 0, .slice none 0 0, .slice none 0 0, .bool false, .bool false, .int .i64 0, .slice none 0 0, .slice none 0 0, .slice none 0 0, .int .i64 0] 44 by rw [hV]; exact Blk.new' _ _ (by simp))
  have c7 := (K1.out.cell 7).trans (show (rcV r ⟨aS, cS, aD, cD, aH, cH, aW, cW, aY, cY, aB, cB, aA, cA⟩)[7]? = some (Value.int .i64 (k : Int)) by rw [← hk9]; rfl)
  have c8 := (K1.out.cell 8).trans (show (rcV r ⟨aS, cS, aD, cD, aH, cH, aW, cW, aY, cY, aB, cB, aA, cA⟩)[8]? = some (Value.slice aD r.ds.length cD) from rfl)
  have c10 := (K1.out.cell 10).trans (show (rcV r ⟨aS, cS, aD, cD, aH, cH, aW, cW, aY, cY, aB, cB, aA, cA⟩)[10]? = some (Value.slice aW r.wish.length cW) from rfl)
  have k1 := K1.out
  have k2 := K2.out
  rw [hV] at c7 c8 c10 k1 k2
  clear hk9
  by_cases h1 : (t.size : Int) < 1
  · have H1 := hid (wish_no1 (r := r) h1)
    go_enter Try.func40, Try.ntmps40
    go_wp2_with (first
      | ((with_reducible refine wpList_load_rec w.heap.size (rcV r ⟨aS, cS, aD, cD, aH, cH, aW, cW, aY, cY, aB, cB, aA, cA⟩) rfl ?_ ?_ ?_); (· rfl); (· exact k1))
      | ((with_reducible refine wpList_store_rec_at (w.heap.size + 1) #[.int .i64 0, .int .i64 0, .bool false, .int .i64 0, .int .i64 0, .slice none 0 0, .int .i64 0, .int .i64 0, .slice none 0 0, .slice none 0 0, .slice none 0 0, .bool false, .bool false, .int .i64 0, .slice none 0 0, .slice none 0 0, .slice none 0 0, .int .i64 0] (rcV r ⟨aS, cS, aD, cD, aH, cH, aW, cW, aY, cY, aB, cB, aA, cA⟩) rfl rfl ?_ ?_ ?_ ?_ ?_); (· rfl); (· rfl); (· exact k2); (· simp [Value.oneCell'])))
    have hz := setRow_heap _ (w.heap.size + 1) _ (rcV r ⟨aS, cS, aD, cD, aH, cH, aW, cW, aY, cY, aB, cB, aA, cA⟩) _ _ k2
    refine ret_cell (ty := 44) Try.results40 (w.heap.size + 1) (rcV r ⟨aS, cS, aD, cD, aH, cH, aW, cW, aY, cY, aB, cB, aA, cA⟩) _ ?_ ?_ hz Try.underlying44 rfl (by kernel_rfl) ?_
    · rfl
    · rfl
    rw [H1.out]
    rw [← hV]
    exact ⟨⟨aS, cS, aD, cD, aH, cH, aW, cW, aY, cY, aB, cB, aA, cA⟩, _, rfl, (RD.out.ext BV.out).setRow (by rw [colF_new (by omega)]; omega) _, below_setRow' (BV.out.mono HBs.out) (by have := HBs.out; omega) _⟩
  by_cases h2 : 100 < (t.size : Int)
  · have H1 := hid (wish_no2 (r := r) h2)
    go_enter Try.func40, Try.ntmps40
    go_wp2_with (first
      | ((with_reducible refine wpList_load_rec w.heap.size (rcV r ⟨aS, cS, aD, cD, aH, cH, aW, cW, aY, cY, aB, cB, aA, cA⟩) rfl ?_ ?_ ?_); (· rfl); (· exact k1))
      | ((with_reducible refine wpList_store_rec_at (w.heap.size + 1) #[.int .i64 0, .int .i64 0, .bool false, .int .i64 0, .int .i64 0, .slice none 0 0, .int .i64 0, .int .i64 0, .slice none 0 0, .slice none 0 0, .slice none 0 0, .bool false, .bool false, .int .i64 0, .slice none 0 0, .slice none 0 0, .slice none 0 0, .int .i64 0] (rcV r ⟨aS, cS, aD, cD, aH, cH, aW, cW, aY, cY, aB, cB, aA, cA⟩) rfl rfl ?_ ?_ ?_ ?_ ?_); (· rfl); (· rfl); (· exact k2); (· simp [Value.oneCell'])))
    have hz := setRow_heap _ (w.heap.size + 1) _ (rcV r ⟨aS, cS, aD, cD, aH, cH, aW, cW, aY, cY, aB, cB, aA, cA⟩) _ _ k2
    refine ret_cell (ty := 44) Try.results40 (w.heap.size + 1) (rcV r ⟨aS, cS, aD, cD, aH, cH, aW, cW, aY, cY, aB, cB, aA, cA⟩) _ ?_ ?_ hz Try.underlying44 rfl (by kernel_rfl) ?_
    · rfl
    · rfl
    rw [H1.out]
    rw [← hV]
    exact ⟨⟨aS, cS, aD, cD, aH, cH, aW, cW, aY, cY, aB, cB, aA, cA⟩, _, rfl, (RD.out.ext BV.out).setRow (by rw [colF_new (by omega)]; omega) _, below_setRow' (BV.out.mono HBs.out) (by have := HBs.out; omega) _⟩
  by_cases h3 : (20 : Int) ≤ (r.wish.length : Int)
  · have H1 := hid (wish_no3 (t := t) h3)
    go_enter Try.func40, Try.ntmps40
    go_wp2_with (first
      | ((with_reducible refine wpList_load_rec w.heap.size (rcV r ⟨aS, cS, aD, cD, aH, cH, aW, cW, aY, cY, aB, cB, aA, cA⟩) rfl ?_ ?_ ?_); (· rfl); (· exact k1))
      | ((with_reducible refine wpList_store_rec_at (w.heap.size + 1) #[.int .i64 0, .int .i64 0, .bool false, .int .i64 0, .int .i64 0, .slice none 0 0, .int .i64 0, .int .i64 0, .slice none 0 0, .slice none 0 0, .slice none 0 0, .bool false, .bool false, .int .i64 0, .slice none 0 0, .slice none 0 0, .slice none 0 0, .int .i64 0] (rcV r ⟨aS, cS, aD, cD, aH, cH, aW, cW, aY, cY, aB, cB, aA, cA⟩) rfl rfl ?_ ?_ ?_ ?_ ?_); (· rfl); (· rfl); (· exact k2); (· simp [Value.oneCell'])))
    have hz := setRow_heap _ (w.heap.size + 1) _ (rcV r ⟨aS, cS, aD, cD, aH, cH, aW, cW, aY, cY, aB, cB, aA, cA⟩) _ _ k2
    refine ret_cell (ty := 44) Try.results40 (w.heap.size + 1) (rcV r ⟨aS, cS, aD, cD, aH, cH, aW, cW, aY, cY, aB, cB, aA, cA⟩) _ ?_ ?_ hz Try.underlying44 rfl (by kernel_rfl) ?_
    · rfl
    · rfl
    rw [H1.out]
    rw [← hV]
    exact ⟨⟨aS, cS, aD, cD, aH, cH, aW, cW, aY, cY, aB, cB, aA, cA⟩, _, rfl, (RD.out.ext BV.out).setRow (by rw [colF_new (by omega)]; omega) _, below_setRow' (BV.out.mono HBs.out) (by have := HBs.out; omega) _⟩
  go_enter Try.func40, Try.ntmps40
  go_wp2_with ((with_reducible refine wpList_slice_hi aD r.ds.length cD k ?_ ?_ ?_ ?_ ?_ ?_); (· rfl); (· rfl); (· rfl); (· exact hkc); (· exact RD.out.d.plain.1))
  rw [← hV]
  clear c7 c8 c10 k1 k2
  have LT := hid (show (r.ds.take k).length = k by rw [List.length_take]; omega)
  refine (l3Has_any aD (r.ds.take k) k cD t _ LT.out (Nat.le_trans hkn RD.out.at.lD) ((RD.out.ext BV.out).at.hD.take k)).mono ?_
  rintro e w1 ⟨rfl, hb1⟩
  have B1 := hid (ext_trans BV.out hb1)
  have K1b := hid (K1.out.ext hb1)
  have K2b := hid (K2.out.ext hb1)
  clear hb1 K1 K2 hV BV
  have k1 := K1b.out
  have k2 := K2b.out
  cases h4 : hasSlot (r.ds.take k) t
  case true =>
    have H1 := hid (wish_no4 (r := r) (t := t) (by rw [TK.out]; exact h4))
    go_wp2_with (first
      | ((with_reducible refine wpList_load_rec w.heap.size (rcV r ⟨aS, cS, aD, cD, aH, cH, aW, cW, aY, cY, aB, cB, aA, cA⟩) rfl ?_ ?_ ?_); (· rfl); (· exact k1))
      | ((with_reducible refine wpList_store_rec_at (w.heap.size + 1) #[.int .i64 0, .int .i64 0, .bool false, .int .i64 0, .int .i64 0, .slice none 0 0, .int .i64 0, .int .i64 0, .slice none 0 0, .slice none 0 0, .slice none 0 0, .bool false, .bool false, .int .i64 0, .slice none 0 0, .slice none 0 0, .slice none 0 0, .int .i64 0] (rcV r ⟨aS, cS, aD, cD, aH, cH, aW, cW, aY, cY, aB, cB, aA, cA⟩) rfl rfl ?_ ?_ ?_ ?_ ?_); (· rfl); (· rfl); (· exact k2); (· simp [Value.oneCell'])))
    have hz := setRow_heap _ (w.heap.size + 1) _ (rcV r ⟨aS, cS, aD, cD, aH, cH, aW, cW, aY, cY, aB, cB, aA, cA⟩) _ _ k2
    refine ret_cell (ty := 44) Try.results40 (w.heap.size + 1) (rcV r ⟨aS, cS, aD, cD, aH, cH, aW, cW, aY, cY, aB, cB, aA, cA⟩) _ ?_ ?_ hz Try.underlying44 rfl (by kernel_rfl) ?_
    · rfl
    · rfl
    rw [H1.out]
    exact ⟨⟨aS, cS, aD, cD, aH, cH, aW, cW, aY, cY, aB, cB, aA, cA⟩, _, rfl, (RD.out.ext B1.out).setRow (by rw [colF_new (by omega)]; omega) _, below_setRow' (B1.out.mono HBs.out) (by have := HBs.out; omega) _⟩
  have H4 := hid (show hasSlot (r.ds.take r.dk.toNat) t = false by rw [TK.out]; exact h4)
  clear h4
  have c10 := (K1b.out.cell 10).trans (show (rcV r ⟨aS, cS, aD, cD, aH, cH, aW, cW, aY, cY, aB, cB, aA, cA⟩)[10]? = some (Value.slice aW r.wish.length cW) from rfl)
  go_wp2_with fail
  go_loopw [5] (fun i wr => ∃ (j : Nat), j ≤ r.wish.length ∧ i = .int .i64 j ∧ (∀ (q : Nat) u, q < j → r.wish[q]? = some u → sameB u t = false) ∧ Below w1.heap.size w1 wr) (fun i _ => r.wish.length - (intOf i).toNat)
  case atStart => exact ⟨0, Nat.zero_le _, rfl, fun q u hq => absurd hq (by omega), Below.refl _ _⟩
  case round =>
    obtain ⟨j, hj, rfl, hin0, hbel0⟩ := hrel
    have hin := hid hin0
    have hbel := hid hbel0
    clear hin0 hbel0 k1 k2 c10
    have B2 := hid (ext_trans B1.out hbel.out)
    have k1 := K1b.out.ext hbel.out
    have k2 := K2b.out.ext hbel.out
    by_cases hlt : j < r.wish.length
    · obtain ⟨u, hs0⟩ : ∃ s, r.wish[j]? = some s := ⟨_, List.getElem?_eq_getElem hlt⟩
      have hs := hid hs0
      obtain ⟨b, off, e0, hb1, c0, _⟩ := ((RD.out.ext B2.out).at.hW) j u hs0
      dsimp only at e0
      have c10 : wr.cell? ⟨w.heap.size, 10, none⟩ = some (.slice (some ⟨b, off, none⟩) r.wish.length cW) := by rw [k1.cell 10, ← e0]; rfl
      have E0 := hid e0
      clear hs0 e0
      have e1 : (0 : Int) ≤ (j : Int) := by omega
      have e2 : (j : Int) < (r.wish.length : Int) := by omega
      cases hq : sameB u t
      · have hq' : (u.toList == t.toList) = false := hq
        have HQ := hid hq
        clear hq
        go_wp2
        go_roundw
        case rel =>
          refine ⟨j + 1, by omega, by go_num, fun q v hq hv => ?_, hbel.out⟩
          by_cases he : q = j
          · subst he; rw [hs.out] at hv; simp only [Option.some.injEq] at hv; rw [← hv]; exact HQ.out
          · exact hin.out q v (by omega) hv
        case measure => simp [intOf]; omega
      · have hq' : (u.toList == t.toList) = true := hq
        have H1 := hid (wish_no5 (hasB_yes hs.out hq))
        clear hq
        go_wp2_with (first
          | ((with_reducible refine wpList_load_rec w.heap.size (rcV r ⟨aS, cS, aD, cD, aH, cH, aW, cW, aY, cY, aB, cB, aA, cA⟩) rfl ?_ ?_ ?_); (· rfl); (· exact k1))
          | ((with_reducible refine wpList_store_rec_at (w.heap.size + 1) #[.int .i64 0, .int .i64 0, .bool false, .int .i64 0, .int .i64 0, .slice none 0 0, .int .i64 0, .int .i64 0, .slice none 0 0, .slice none 0 0, .slice none 0 0, .bool false, .bool false, .int .i64 0, .slice none 0 0, .slice none 0 0, .slice none 0 0, .int .i64 0] (rcV r ⟨aS, cS, aD, cD, aH, cH, aW, cW, aY, cY, aB, cB, aA, cA⟩) rfl rfl ?_ ?_ ?_ ?_ ?_); (· rfl); (· rfl); (· exact k2); (· simp [Value.oneCell'])))
        have hz := setRow_heap _ (w.heap.size + 1) _ (rcV r ⟨aS, cS, aD, cD, aH, cH, aW, cW, aY, cY, aB, cB, aA, cA⟩) _ _ k2
        refine ret_cell (ty := 44) Try.results40 (w.heap.size + 1) (rcV r ⟨aS, cS, aD, cD, aH, cH, aW, cW, aY, cY, aB, cB, aA, cA⟩) _ ?_ ?_ hz Try.underlying44 rfl (by kernel_rfl) ?_
        · rfl
        · rfl
        rw [H1.out]
        exact ⟨⟨aS, cS, aD, cD, aH, cH, aW, cW, aY, cY, aB, cB, aA, cA⟩, _, rfl, (RD.out.ext B2.out).setRow (by rw [colF_new (by omega)]; omega) _, below_setRow' (B2.out.mono HBs.out) (by have := HBs.out; omega) _⟩
    · have hjj : j = r.wish.length := by omega
      subst hjj
      have H5 := hid (hasB_no (t := t) (l := r.wish) (fun i u hi hu => hin.out i u hi hu))
      have H1 := hid (wish_yes (by omega) (by omega) (by omega) H4.out H5.out)
      have HT := hid (show okS t by unfold okS maxLen; omega)
      have c10 := (k1.cell 10).trans (show (rcV r ⟨aS, cS, aD, cD, aH, cH, aW, cW, aY, cY, aB, cB, aA, cA⟩)[10]? = some (Value.slice aW r.wish.length cW) from rfl)
      have OW := hid ((RD.out.ext (ext_alloc B2.out (.cells #[.string t] 9))).t.own)
      have WNE := hid (show ∀ b, w.heap.size ≤ b → some b ≠ (Value.slice aW r.wish.length cW).ownBlock from fun b hle e => by
        have h9 := RD.out.t.own.lt b e.symm
        omega)
      have WB := hid (show ∀ j, (Value.slice aW r.wish.length cW).ownBlock = some j → B ≤ j from fun j hj => (RD.out.t.own.lt j hj).1)
      have NEWS := hid (show ReadAt (wr.alloc (.cells #[.string t] 9)) (some ⟨wr.heap.size, 0, none⟩) 1 1 1 [.string t] from
        ⟨rfl, fun e => by simp at e, fun x hx => by
          simp only [Option.some.injEq] at hx
          subst hx
          exact ⟨rfl, blk_news (Blk.new wr #[.string t] 9)⟩⟩)
      go_wp2_with (first
        | ((with_reducible refine wpList_appT B aW r.wish.length cW (flatT r.wish) (some ⟨wr.heap.size, 0, none⟩) 1 1 [.string t] ?_ ?_ ?_ ?_ ?_ ?_ ?_ ?_); (· rfl); (· rfl); (· exact OW.out); (· exact NEWS.out); (· intro u hu; simp at hu; subst hu; rfl); (· omega); (· have h9 := HBs.out; have h8 := B2.out.size; simp; omega); (intro a' c' w2 q1 q2 q3); (have KB := hid (show ∀ b C T, Blk (wr.alloc (.cells #[.string t] 9)) b C T → w.heap.size ≤ b → Blk w2 b C T from fun b C T hb hle => (q2.block b hb.lt (WNE.out b hle)).trans hb)); (have K1c := hid (KB.out _ _ _ (k1.alloc (.cells #[.string t] 9)) (Nat.le_refl _))); (have K2c := hid (KB.out _ _ _ (k2.alloc (.cells #[.string t] 9)) (by omega))); (have HAS := hid (RcHas.growT (RD.out.ext (ext_alloc B2.out (.cells #[.string t] 9))) (l := r.wish ++ [t]) q2 (by (simp only [List.length_append, List.length_cons, List.length_nil, flatT, List.map_append, List.map_cons, List.map_nil]; exact q1)) q3 (goodT_snoc RD.out.gd.t HT.out))); (have B3 := hid (below_grow ((ext_alloc B2.out (.cells #[.string t] 9)).mono HBs.out) q2 WB.out (by have h9 := HBs.out; have h8 := B2.out.size; simp; omega))); (have NW := hid (show ∀ x, a' = some x → x.block ≠ w.heap.size ∧ x.block ≠ w.heap.size + 1 from fun x hx => by (have h8 := B2.out.size; have h7 := k2.lt; rcases q3 x hx with ⟨y, hy, he⟩ | hnew; (· have h9 := (RD.out.t.lt y hy).2; omega); (· simp at hnew; omega)))); (clear q1 q2 q3 k1 k2 c10); (have eqC : (rcV { r with wish := r.wish ++ [t] } ⟨aS, cS, aD, cD, aH, cH, a', c', aY, cY, aB, cB, aA, cA⟩) = (rcV r ⟨aS, cS, aD, cD, aH, cH, aW, cW, aY, cY, aB, cB, aA, cA⟩).setIfInBounds 10 (.slice a' (r.wish.length + 1) c') := by simp); (have k1 : Blk (w2.setCell ⟨w.heap.size, 10, none⟩ (.slice a' (r.wish.length + 1) c')) w.heap.size (rcV { r with wish := r.wish ++ [t] } ⟨aS, cS, aD, cD, aH, cH, a', c', aY, cY, aB, cB, aA, cA⟩) 44 := by (rw [eqC]; exact K1c.out.set (o := 10) (.slice a' (r.wish.length + 1) c'))); (clear eqC); (have k2 : Blk (w2.setCell ⟨w.heap.size, 10, none⟩ (.slice a' (r.wish.length + 1) c')) (w.heap.size + 1) #[.int .i64 0, .int .i64 0, .bool false, .int .i64 0, .int .i64 0, .slice none 0 0, .int .i64 0, .int .i64 0, .slice none 0 0, .slice none 0 0, .slice none 0 0, .bool false, .bool false, .int .i64 0, .slice none 0 0, .slice none 0 0, .slice none 0 0, .int .i64 0] 44 := K2c.out.setCell (by simp) _); (have cK := K1c.out.cell); (have fK := K1c.out.free))
        | ((with_reducible refine wpList_load_rec w.heap.size (rcV { r with wish := r.wish ++ [t] } ⟨aS, cS, aD, cD, aH, cH, a', c', aY, cY, aB, cB, aA, cA⟩) rfl ?_ ?_ ?_); (· rfl); (· exact k1))
        | ((with_reducible refine wpList_store_rec_at (w.heap.size + 1) #[.int .i64 0, .int .i64 0, .bool false, .int .i64 0, .int .i64 0, .slice none 0 0, .int .i64 0, .int .i64 0, .slice none 0 0, .slice none 0 0, .slice none 0 0, .bool false, .bool false, .int .i64 0, .slice none 0 0, .slice none 0 0, .slice none 0 0, .int .i64 0] (rcV { r with wish := r.wish ++ [t] } ⟨aS, cS, aD, cD, aH, cH, a', c', aY, cY, aB, cB, aA, cA⟩) rfl rfl ?_ ?_ ?_ ?_ ?_); (· rfl); (· rfl); (· exact k2); (· simp [Value.oneCell'])))
      have hz := setRow_heap _ (w.heap.size + 1) _ (rcV { r with wish := r.wish ++ [t] } ⟨aS, cS, aD, cD, aH, cH, a', c', aY, cY, aB, cB, aA, cA⟩) _ _ k2
      refine ret_cell (ty := 44) Try.results40 (w.heap.size + 1) (rcV { r with wish := r.wish ++ [t] } ⟨aS, cS, aD, cD, aH, cH, a', c', aY, cY, aB, cB, aA, cA⟩) _ ?_ ?_ hz Try.underlying44 rfl (by kernel_rfl) ?_
      · rfl
      · rfl
      rw [H1.out]
      have q8 : ∀ b, w.heap.size ≤ b → (∀ x, a' = some x → x.block ≠ b) → 8 < colN a' 3 (colF w.heap.size col) b := fun b hb hx => by rw [colN_else hx, colF_new hb]; omega
      exact ⟨⟨aS, cS, aD, cD, aH, cH, a', c', aY, cY, aB, cB, aA, cA⟩, _, rfl, (HAS.out.setCell (q := ⟨w.heap.size, 10, none⟩) (q8 _ (Nat.le_refl _) (fun x hx => (NW.out x hx).1)) _).setRow (q8 _ (by omega) (fun x hx => (NW.out x hx).2)) _, below_setRow' (below_set B3.out HBs.out _) (by have := HBs.out; omega) _⟩
end Go.Proofs.Ytafolmhpdgpmaaa

/-
  impl.wish.
-/
namespace Go.Proofs.Ytafolmhpdgpmaaa
open Go.ChangeShapes Go.WideShapes Go.ChangeAt Go.RowKit
set_option linter.unusedVariables false
set_option linter.unusedSimpArgs false

theorem RcHas.low {B B' : Nat} {w : World} {r : Rc} {p : RcP} {X : RcX} {col : Nat → Nat} (h : RcHas B w r p X col) (hB : B' ≤ B) : RcHas B' w r p X col :=
  ⟨h.s.low hB, h.d.low hB, h.h.low hB, h.hm, ⟨fun m hm => (h.hi.row m hm).low hB, h.hi.apart⟩, h.t.low hB, h.y.low hB, h.b.low hB, h.a.low hB, h.am, ⟨fun m hm => (h.ai.row m hm).low hB, h.ai.apart⟩, h.gd⟩
theorem valid_knows {r : Rc} (h : validB r = true) : 0 ≤ r.dk ∧ r.dk ≤ r.ds.length ∧ r.ds.length ≤ 60 := by
  have hd : diskOkB r.dp r.dk r.ds = true := by
    cases hc : diskOkB r.dp r.dk r.ds
    · rw [nv_g2 hc] at h; cases h
    · rfl
  simp only [diskOkB, slotsOkB, Bool.and_eq_true, decide_eq_true_eq] at hd
  obtain ⟨⟨⟨_, ⟨h1, _⟩⟩, h2⟩, _⟩ := hd
  exact ⟨(inB_iff.1 h2).1, (inB_iff.1 h2).2, h1⟩
theorem wish_no6 {r : Rc} {t : ByteArray} (h : inB (t.size : Int) 1 100 = false) : wishR r t = r := wishR_no (by simp only [wishB, h, Bool.false_and])
theorem wish_yes6 {r : Rc} {t : ByteArray} (h1 : inB (t.size : Int) 1 100 = true) (h3 : ¬ (20 : Int) ≤ (r.wish.length : Int)) (h4 : hasSlot (r.ds.take r.dk.toNat) t = false) (h5 : hasB r.wish t = false) : wishR r t = { r with wish := r.wish ++ [t] } :=
  wish_yes (by have := (inB_iff.1 h1).1; omega) (by have := (inB_iff.1 h1).2; omega) h3 h4 h5
/-- the recorder in the block g has become r' -/
def BPost (B g : Nat) (w : World) (r' : Rc) (X : RcX) (w' : World) : Prop := ∃ p' col', Blk w' g (rcV r' p') 44 ∧ RcHas B w' r' p' X col' ∧ 8 < col' g ∧ Below B w w'

set_option maxHeartbeats 16000000 in
set_option maxRecDepth 20000 in
theorem implWish0 (B g : Nat) (r : Rc) (p : RcP) (X : RcX) (col : Nat → Nat) (t : ByteArray) (w : World) (hg : B ≤ g) (hk : Blk w g (rcV r p) 44) (hcol : 8 < col g) (hv : validB r = true) (ht : t.size ≤ 1048576) (h : RcHas B w r p X col) :
    Calls Try.prog 48 #[.pointer (some ⟨g, 0, none⟩), .string t] w fun e w' => (∃ v, e = .returned v) ∧ BPost B g w (wishR r t) X w' := by
  obtain ⟨aS, cS, aD, cD, aH, cH, aW, cW, aY, cY, aB, cB, aA, cA⟩ := p
  have RD := hid h.fresh
  have CG := hid (show 8 < colF w.heap.size col g by rw [colF_old hk.lt]; exact hcol)
  obtain ⟨hk0, hk1, hk2⟩ := valid_knows hv
  have HV := hid hv
  have HG := hid hg
  have HBs := hid (show B ≤ w.heap.size from Nat.le_trans hg (Nat.le_of_lt hk.lt))
  obtain ⟨k, hk9⟩ : ∃ k : Nat, r.dk = (k : Int) := ⟨r.dk.toNat, by omega⟩
  have hkn : k ≤ r.ds.length := by omega
  have TK := hid (show r.dk.toNat = k by omega)
  have HK := hid hk9
  have K1 := hid hk
  have hwl : r.wish.length ≤ 20 := by
    have h9 : wishesOkB r.wish = true := by
      cases hc : wishesOkB r.wish
      · rw [nv_g4 hc] at hv; cases hv
      · rfl
    simp only [wishesOkB, Bool.and_eq_true, decide_eq_true_eq] at h9
    exact h9.1
  clear h hk0 hk1 hk2 hk hcol hv hk9 hg
  have cK := K1.out.cell
  have same := hid (show BPost B g w r X w from ⟨⟨aS, cS, aD, cD, aH, cH, aW, cW, aY, cY, aB, cB, aA, cA⟩, _, K1.out, RD.out, CG.out, Below.refl _ _⟩)
  cases h1 : inB (t.size : Int) 1 100
  case false =>
    have H1 := hid (wish_no6 (r := r) h1)
    go_enter Try.func48, Try.ntmps48
    go_wp2_with (go_at_call 86; refine (within_any _ _ _ _).mono ?_; rintro e w' ⟨rfl, he⟩; have he' := he.symm; subst he'; clear he)
    refine bodyPost_end (results_none rfl _ _ _) rfl ?_
    rw [H1.out]
    exact ⟨⟨_, rfl⟩, same.out⟩
  by_cases h3 : (20 : Int) ≤ (r.wish.length : Int)
  · have H1 := hid (wish_no3 (t := t) h3)
    have h3' : ¬ (r.wish.length : Int) < 20 := by omega
    go_enter Try.func48, Try.ntmps48
    go_wp2_with (go_at_call 86; refine (within_any _ _ _ _).mono ?_; rintro e w' ⟨rfl, he⟩; have he' := he.symm; subst he'; clear he)
    refine bodyPost_end (results_none rfl _ _ _) rfl ?_
    rw [H1.out]
    exact ⟨⟨_, rfl⟩, same.out⟩
  have h3' : (r.wish.length : Int) < 20 := by omega
  have AW := hid (RD.out.at.hW)
  cases h5 : hasB r.wish t
  case true =>
    have H1 := hid (wish_no5 (r := r) (t := t) h5)
    go_enter Try.func48, Try.ntmps48
    go_wp2_with (first | (go_at_call 86; refine (within_any _ _ _ _).mono ?_; rintro e w' ⟨rfl, he⟩; have he' := he.symm; subst he'; clear he) | (go_at_call 97; refine (contains_any aW r.wish r.wish.length cW t _ rfl RD.out.at.lW AW.out).mono ?_; rintro e w' ⟨rfl, he⟩; have he' := he.symm; subst he'; clear he))
    refine bodyPost_end (results_none rfl _ _ _) rfl ?_
    rw [H1.out]
    exact ⟨⟨_, rfl⟩, same.out⟩
  have H5 := hid h5
  go_enter Try.func48, Try.ntmps48
  go_wp2_with (first | (go_at_call 86; refine (within_any _ _ _ _).mono ?_; rintro e w' ⟨rfl, he⟩; have he' := he.symm; subst he'; clear he) | (go_at_call 97; refine (contains_any aW r.wish r.wish.length cW t _ rfl RD.out.at.lW AW.out).mono ?_; rintro e w' ⟨rfl, he⟩; have he' := he.symm; subst he'; clear he))
  refine (knows_any r.dp r.dk aD r.ds r.ds.length cD k t _ rfl RD.out.at.lD HK.out hkn RD.out.d.len.2 RD.out.d.plain.1 RD.out.at.hD).mono ?_
  rintro e w1 ⟨rfl, hb1⟩
  have B1 := hid hb1
  have k1 := K1.out.ext hb1
  have K1b := hid k1
  clear hb1 cK
  cases h4 : hasText (r.ds.take k) t
  case true =>
    have H1 := hid (wish_no4 (r := r) (t := t) (by rw [← hasText_eq HV.out, TK.out]; exact h4))
    go_wp2
    refine bodyPost_end (results_none rfl _ _ _) rfl ?_
    rw [H1.out]
    exact ⟨⟨_, rfl⟩, ⟨aS, cS, aD, cD, aH, cH, aW, cW, aY, cY, aB, cB, aA, cA⟩, _, K1b.out, RD.out.ext B1.out, CG.out, B1.out.mono HBs.out⟩
  have H4 := hid (show hasSlot (r.ds.take r.dk.toNat) t = false by rw [← hasText_eq HV.out, TK.out]; exact h4)
  have H1 := hid (wish_yes6 h1 (by omega) H4.out H5.out)
  have HT := hid (show okS t by unfold okS maxLen; omega)
  clear h4
  have cK := k1.cell
  have OW := hid ((RD.out.ext (ext_alloc B1.out (.cells #[.string t] 9))).t.own)
  have GNE := hid (show some g ≠ (Value.slice aW r.wish.length cW).ownBlock from fun e => by
    have h9 := RD.out.t.col
    have h8 := CG.out
    cases hs : aW with
    | none => rw [hs] at e; simp [Value.ownBlock] at e
    | some y =>
      rw [hs] at e
      simp only [Value.ownBlock, Option.some.injEq] at e
      have h7 := h9 y hs
      rw [← e] at h7
      omega)
  have WB := hid (show ∀ j, (Value.slice aW r.wish.length cW).ownBlock = some j → B ≤ j from fun j hj => (RD.out.t.own.lt j hj).1)
  have NEWS := hid (show ReadAt (w1.alloc (.cells #[.string t] 9)) (some ⟨w1.heap.size, 0, none⟩) 1 1 1 [.string t] from
    ⟨rfl, fun e => by simp at e, fun x hx => by
      simp only [Option.some.injEq] at hx
      subst hx
      exact ⟨rfl, blk_news (Blk.new w1 #[.string t] 9)⟩⟩)
  go_wp2_with (first
    | ((with_reducible refine wpList_appT B aW r.wish.length cW (flatT r.wish) (some ⟨w1.heap.size, 0, none⟩) 1 1 [.string t] ?_ ?_ ?_ ?_ ?_ ?_ ?_ ?_); (· rfl); (· rfl); (· exact OW.out); (· exact NEWS.out); (· intro u hu; simp at hu; subst hu; rfl); (· omega); (· have h9 := HBs.out; have h8 := B1.out.size; simp; omega); (intro a' c' w2 q1 q2 q3); (have K1c := hid (show Blk w2 g (rcV r ⟨aS, cS, aD, cD, aH, cH, aW, cW, aY, cY, aB, cB, aA, cA⟩) 44 from (q2.block g (k1.alloc (.cells #[.string t] 9)).lt GNE.out).trans (k1.alloc (.cells #[.string t] 9)))); (have HAS := hid (RcHas.growT (RD.out.ext (ext_alloc B1.out (.cells #[.string t] 9))) (l := r.wish ++ [t]) q2 (by (simp only [List.length_append, List.length_cons, List.length_nil, flatT, List.map_append, List.map_cons, List.map_nil]; exact q1)) q3 (goodT_snoc RD.out.gd.t HT.out))); (have B3 := hid (below_grow ((ext_alloc B1.out (.cells #[.string t] 9)).mono HBs.out) q2 WB.out (by have h9 := HBs.out; have h8 := B1.out.size; simp; omega))); (have NW := hid (show 8 < colN a' 3 (colF w.heap.size col) g by (rw [colN_else (fun x hx he => by (rcases q3 x hx with ⟨y, hy, hyx⟩ | hnew; (· have h9 := RD.out.t.col y hy; have h8 := CG.out; rw [hyx, he] at h9; omega); (· have h9 := K1.out.lt; have h8 := B1.out.size; simp at hnew; omega)))]; exact CG.out))); (clear q1 q2 q3 k1 cK); (have eqC : (rcV { r with wish := r.wish ++ [t] } ⟨aS, cS, aD, cD, aH, cH, a', c', aY, cY, aB, cB, aA, cA⟩) = (rcV r ⟨aS, cS, aD, cD, aH, cH, aW, cW, aY, cY, aB, cB, aA, cA⟩).setIfInBounds 10 (.slice a' (r.wish.length + 1) c') := by simp); (have k1 : Blk (w2.setCell ⟨g, 10, none⟩ (.slice a' (r.wish.length + 1) c')) g (rcV { r with wish := r.wish ++ [t] } ⟨aS, cS, aD, cD, aH, cH, a', c', aY, cY, aB, cB, aA, cA⟩) 44 := by (rw [eqC]; exact K1c.out.set (o := 10) (.slice a' (r.wish.length + 1) c'))); (clear eqC); (have cK := K1c.out.cell); (have fK := K1c.out.free)))
  refine bodyPost_end (results_none rfl _ _ _) rfl ?_
  rw [H1.out]
  exact ⟨⟨_, rfl⟩, ⟨aS, cS, aD, cD, aH, cH, a', c', aY, cY, aB, cB, aA, cA⟩, _, k1, HAS.out.setCell (q := ⟨g, 10, none⟩) NW.out _, NW.out, below_set B3.out HG.out _⟩

end Go.Proofs.Ytafolmhpdgpmaaa

/-
  Nothing, and an answer that is a recorder of its own memory.
-/
namespace Go.Proofs.Ytafolmhpdgpmaaa
open Go.ChangeShapes Go.WideShapes Go.ChangeAt Go.RowKit
set_option linter.unusedVariables false
set_option linter.unusedSimpArgs false

/-- nothing -/
def rc0 : Rc := ⟨0, 0, false, 0, 0, [], 0, 0, [], [], [], false, false, 0, [], [], [], 0⟩
def rp0 : RcP := ⟨none, 0, none, 0, none, 0, none, 0, none, 0, none, 0, none, 0⟩
theorem rc0_cells : rcV rc0 rp0 = #[.int .i64 0, .int .i64 0, .bool false, .int .i64 0, .int .i64 0, .slice none 0 0, .int .i64 0, .int .i64 0, .slice none 0 0, .slice none 0 0, .slice none 0 0, .bool false, .bool false, .int .i64 0, .slice none 0 0, .slice none 0 0, .slice none 0 0, .int .i64 0] := rfl
theorem rowC_nil0 (B : Nat) (w : World) (col : Nat → Nat) (t : Nat) (e : TypeId) (k : Nat) : RowC B w col t e k none 0 0 [] := ⟨World.ownsRow_nil _ _ _ _, fun x hx => by simp at hx⟩
theorem rc0_has (B : Nat) (w : World) (col : Nat → Nat) : RcHas B w rc0 rp0 ⟨[], []⟩ col :=
  ⟨rowC_nil0 _ _ _ _ _ _, rowC_nil0 _ _ _ _ _ _, rowC_nil0 _ _ _ _ _ _, rfl, ⟨fun m hm => absurd hm (by simp), List.Pairwise.nil⟩, rowC_nil0 _ _ _ _ _ _, rowC_nil0 _ _ _ _ _ _, rowC_nil0 _ _ _ _ _ _, rowC_nil0 _ _ _ _ _ _, rfl, ⟨fun m hm => absurd hm (by simp), List.Pairwise.nil⟩,
    ⟨fun i s hs => by simp [rc0] at hs, fun i s hs => by simp [rc0] at hs, fun i s hs => by simp [rc0] at hs, fun i s hs => by simp [rc0] at hs, fun i s hs => by simp [rc0] at hs, fun i s hs => by simp [rc0] at hs, fun i s hs => by simp [rc0] at hs⟩⟩
/-- a recorder of its own memory is answered -/
def APost (w : World) (r' : Rc) (e : Ending) (w' : World) : Prop := ∃ p' X' col', e = .returned (.agg (rcV r' p')) ∧ RcHas w.heap.size w' r' p' X' col' ∧ Below w.heap.size w w'
theorem RcHas.far {B : Nat} {w : World} {r : Rc} {p : RcP} {X : RcX} {col : Nat → Nat} (h : RcHas B w r p X col) {g : Nat} (hg : g < B) (cs : Array Value) : RcHas B (w.setRow g cs) r p X col :=
  h.same fun b hb _ _ => setRow_other w g b cs (by omega)
theorem RcHas.lower {B B' : Nat} {w : World} {r : Rc} {p : RcP} {X : RcX} {col : Nat → Nat} (h : RcHas B w r p X col) (hB : B' ≤ B) : RcHas B' w r p X col :=
  ⟨h.s.low hB, h.d.low hB, h.h.low hB, h.hm, ⟨fun m hm => (h.hi.row m hm).low hB, h.hi.apart⟩, h.t.low hB, h.y.low hB, h.b.low hB, h.a.low hB, h.am, ⟨fun m hm => (h.ai.row m hm).low hB, h.ai.apart⟩, h.gd⟩
end Go.Proofs.Ytafolmhpdgpmaaa
