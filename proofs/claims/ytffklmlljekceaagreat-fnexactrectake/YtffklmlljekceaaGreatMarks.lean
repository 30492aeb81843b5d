/-
  The law's own marks: markText, markRecSlotS, heldRecSlotS.
-/
import Derived.Test.YtffklmlljekceaaGreatSpecMerge
import Derived.Test.YtffklmlljekceaaGreatDrawnRec
import Derived.Laws.BytesArg
namespace Go.Proofs.YtffklmlljekceaaGreat
open Go.ChangeShapes Go.WideShapes Go.ChangeAt Go.RowKit
set_option linter.unusedVariables false
set_option linter.unusedSimpArgs false

def dig (j : Nat) : ByteArray := strOfNums [48 + (j : Int) % 10]
theorem dig_size (j : Nat) : (dig j).size = 1 := rfl
/-- the digits of k ahead of o, at most f of them -/
def mtF : Nat → Nat → ByteArray → ByteArray
  | 0, _, o => o
  | f + 1, k, o => if k = 0 then o else mtF f (k / 10) (dig k ++ o)
theorem mtF_more : ∀ (f g k : Nat) (o : ByteArray), k < f → k < g → mtF f k o = mtF g k o
  | 0, _, _, _, h, _ => absurd h (by omega)
  | _ + 1, 0, _, _, _, h => absurd h (by omega)
  | f + 1, g + 1, k, o, h1, h2 => by
    unfold mtF
    split
    · rfl
    · exact mtF_more f g (k / 10) _ (by omega) (by omega)
/-- the digits of k ahead of o -/
def mtL (k : Nat) (o : ByteArray) : ByteArray := mtF (k + 1) k o
theorem mtL_zero (o : ByteArray) : mtL 0 o = o := by simp [mtL, mtF]
theorem mtL_step {k : Nat} (h : 0 < k) (o : ByteArray) : mtL k o = mtL (k / 10) (dig k ++ o) := by
  have e : mtL k o = mtF k (k / 10) (dig k ++ o) := by
    unfold mtL
    conv => lhs; unfold mtF
    rw [if_neg (by omega)]
  rw [e]
  exact mtF_more _ _ _ _ (by omega) (by omega)
def markT (k : Nat) : ByteArray := if k = 0 then ⟨#[109, 48]⟩ else ⟨#[109]⟩ ++ mtL k ⟨#[]⟩

theorem div10 {j : Nat} (h : 0 < j) : ((j : Int) / 10).toNat < (j : Int).toNat := by omega
theorem div10_cast (j : Nat) : (j : Int) / 10 = ((j / 10 : Nat) : Int) := by omega
set_option maxHeartbeats 2000000 in
set_option maxRecDepth 20000 in
theorem markText_any (k : Nat) (w : World) (hk : k ≤ 1152921504606846976) :
    Calls Tryz.prog 67 #[.int .i64 k] w fun e w' => e = .returned (.string (markT k)) ∧ Below w.heap.size w w' := by
  by_cases h0 : k = 0
  · go_enter Tryz.func67, Tryz.ntmps67
    go_wp2
    go_ret
    exact ⟨by simp [markT, h0], Below.refl _ _⟩
  · have HT := hid (show markT k = ⟨#[109]⟩ ++ mtL k ⟨#[]⟩ by unfold markT; rw [if_neg h0])
    go_enter Tryz.func67, Tryz.ntmps67
    go_wp2
    go_loopw [0, 3] (fun kv ov wr => ∃ (j : Nat) (o : ByteArray), kv = .int .i64 j ∧ ov = .string o ∧ mtL j o = mtL k ⟨#[]⟩ ∧ o.size + j ≤ 1152921504606846976 ∧ Below w.heap.size w wr) (fun kv _ _ => (intOf kv).toNat)
    case atStart => exact ⟨k, ⟨#[]⟩, rfl, rfl, rfl, by show 0 + k ≤ 1152921504606846976; omega, Below.refl _ _⟩
    case round =>
      obtain ⟨j, o, rfl, rfl, heq0, hj, hbel⟩ := hrel
      have heq := hid heq0
      clear heq0
      by_cases hjz : 0 < j
      · have e1 : (0 : Int) < (j : Int) := by omega
        have e2 : (o.size : Int) ≤ 1152921504606846976 := by omega
        have e3 : o.size ≤ 1152921504606846976 := by omega
        have hwr : wrap64 ((j : Int) / 10) = (j : Int) / 10 := by go_arith
        have HJ := hid hj
        have HBe := hid hbel
        clear hj hbel
        obtain ⟨D, hD0, dsz⟩ : ∃ D, D = dig j ∧ D.size = 1 := ⟨_, rfl, dig_size j⟩
        have hD := hid hD0
        have kc : (convert 132 9 (.slice (some ⟨wr.heap.size, 0, none⟩) 1 1)).run Tryz.prog (wr.alloc (.cells #[.int .u8 (48 + (j : Int) % 10)] 5)) = .ok (.string D) (wr.alloc (.cells #[.int .u8 (48 + (j : Int) % 10)] 5)) := by
         rw [hD0]
         exact run_convert_bytes_arg _ 132 5 Tryz.underlying132 Tryz.underlying5 wr.heap.size 0 1 1 [48 + (j : Int) % 10] rfl (fun i hi => by
            have : i = 0 := by omega
            subst this
            exact (Blk.new wr #[.int .u8 (48 + (j : Int) % 10)] 5).cell 0) 9 Tryz.underlying9
        clear hD0
        go_wp2
        rw [hwr]
        go_roundw
        case rel =>
          have h9 := HJ.out
          refine ⟨j / 10, D ++ o, by rw [div10_cast], rfl, by rw [hD.out, ← mtL_step hjz]; exact heq.out, ?_, ext_alloc HBe.out _⟩
          rw [ByteArray.size_append, dsz]
          omega
        case measure =>
          exact div10 hjz
      · have e1 : j = 0 := by omega
        subst e1
        have e3 : o.size ≤ 1152921504606846976 := by omega
        go_wp2
        go_ret
        have h9 := heq.out
        rw [mtL_zero] at h9
        exact ⟨by rw [HT.out, ← h9]; rfl, hbel⟩

/-- what marking writes -/
def markL (k : Nat) : Nat → List Sl
  | 0 => []
  | n + 1 => ((k : Int), markT (k + 1)) :: markL (k + 2) n
theorem markL_len : ∀ (n k : Nat), (markL k n).length = n
  | 0, k => rfl
  | n + 1, k => by simp [markL, markL_len n (k + 2)]
theorem markL_at : ∀ (n k i : Nat), i < n → (markL k n)[i]? = some (((k + 2 * i : Nat) : Int), markT (k + 2 * i + 1))
  | 0, k, i, h => absurd h (by omega)
  | n + 1, k, 0, h => by simp [markL]
  | n + 1, k, i + 1, h => by
    have := markL_at n (k + 2) i (by omega)
    rw [show k + 2 + 2 * i = k + 2 * (i + 1) by omega] at this
    simpa [markL] using this
/-- but for the block g, what was there is as it was -/
structure Only (g : Nat) (w w' : World) : Prop where
  os : w'.os = w.os
  tape : w'.tape = w.tape
  output : w'.output = w.output
  size : w.heap.size ≤ w'.heap.size
  block : ∀ k, k < w.heap.size → k ≠ g → w'.heap[k]? = w.heap[k]?
theorem Only.refl (g : Nat) (w : World) : Only g w w := ⟨rfl, rfl, rfl, Nat.le_refl _, fun _ _ _ => rfl⟩
theorem Only.ext {g : Nat} {a b c : World} (h : Only g a b) (k : Below b.heap.size b c) : Only g a c :=
  ⟨k.os.trans h.os, k.tape.trans h.tape, k.output.trans h.output, Nat.le_trans h.size k.size, fun i hi hg => (k.block i (Nat.lt_of_lt_of_le hi h.size)).trans (h.block i hi hg)⟩
theorem Only.setCell {g : Nat} {a b : World} (h : Only g a b) (o : Nat) (v : Value) : Only g a (b.setCell ⟨g, o, none⟩ v) :=
  ⟨h.os, h.tape, h.output, by simpa using h.size, fun i hi hg => (heap_setCell_other b ⟨g, o, none⟩ i v hg).trans (h.block i hi hg)⟩
theorem Only.blk {g b : Nat} {w w' : World} {c : Array Value} {t : TypeId} (h : Only g w w') (hb : Blk w b c t) (hg : b ≠ g) : Blk w' b c t := (h.block b hb.lt hg).trans hb
theorem Only.below {g : Nat} {a b c : World} (h : Below a.heap.size a b) (k : Only g b c) (hg : a.heap.size ≤ g) : Below a.heap.size a c :=
  h.trans ⟨k.os, k.tape, k.output, k.size, fun i hi => k.block i (Nat.lt_of_lt_of_le hi h.size) (by omega)⟩

theorem markText_int (K : Int) (k : Nat) (w : World) (hK : K = (k : Int)) (hk : k ≤ 1152921504606846976) :
    Calls Tryz.prog 67 #[.int .i64 K] w fun e w' => e = .returned (.string (markT k)) ∧ Below w.heap.size w w' := by subst hK; exact markText_any k w hk

set_option maxHeartbeats 4000000 in
theorem markSlots (g : Nat) (l : List Sl) (n k : Nat) (w : World) (hn : l.length = n) (hk : k + 2 * n ≤ 1152921504606846900) (h : Blk w g (flat l).toArray 108) :
    Calls Tryz.prog 50 #[.slice (some ⟨g, 0, none⟩) n n, .int .i64 k] w fun e w' => e = .returned (.int .i64 ((k + 2 * n : Nat) : Int)) ∧ Blk w' g (flat (markL k n)).toArray 108 ∧ Only g w w' := by
  have HL := hid hn
  have H := hid h
  clear hn h
  go_enter Tryz.func50, Tryz.ntmps50
  go_wp2
  go_loopw [1, 5] (fun kv i wr => ∃ (j : Nat) (C : Array Value) (K : Int), j ≤ n ∧ i = .int .i64 j ∧ kv = .int .i64 K ∧ K = ((k + 2 * j : Nat) : Int) ∧ C.size = n * 2 ∧ (∀ q, q < j * 2 → C[q]? = (flat (markL k n))[q]?) ∧ Blk wr g C 108 ∧ Only g w wr) (fun _ i _ => n - (intOf i).toNat)
  case atStart => exact ⟨0, (flat l).toArray, k, Nat.zero_le _, rfl, rfl, rfl, by rw [List.size_toArray, flat_len, HL.out], fun q hq => absurd hq (by omega), H.out, Only.refl _ _⟩
  case round =>
    obtain ⟨j, C, K, hj, rfl, rfl, hK0, hz, hq0, hb0, ho0⟩ := hrel
    have HQ := hid hq0
    have HB := hid hb0
    have HO := hid ho0
    have HZ := hid hz
    have HK := hid hK0
    have HKN := hid hk
    have K1 : (0 : Int) ≤ K := by omega
    have K2 : K ≤ 1152921504606846976 := by omega
    have hnb : n ≤ 1152921504606846976 := by omega
    clear hq0 hb0 ho0 hK0 hk
    by_cases hlt : j < n
    · have e1 : (0 : Int) ≤ (j : Int) := by omega
      have e2 : (j : Int) < (n : Int) := by omega
      obtain ⟨x0, hx0⟩ : ∃ x, C[j * 2]? = some x := ⟨_, Array.getElem?_eq_getElem (by omega)⟩
      obtain ⟨x1, hx1⟩ : ∃ x, C[j * 2 + 1]? = some x := ⟨_, Array.getElem?_eq_getElem (by omega)⟩
      have d0 := (HB.out.cell (j * 2)).trans hx0
      have d1 := (HB.out.cell (j * 2 + 1)).trans hx1
      have ff := HB.out.free
      have C1b := hid (heap_setCell_same wr g (j * 2) C 108 (.int .i64 K) HB.out)
      have hx1' : (C.setIfInBounds (j * 2) (.int .i64 K))[j * 2 + 1]? = some x1 := by rw [Array.getElem?_setIfInBounds_ne (by omega)]; exact hx1
      clear hx0 hx1 hz
      go_wp2_with fail
      refine (markText_int (K + 1) (k + 2 * j + 1) _ (by rw [HK.out]; omega) (by have := HKN.out; omega)).mono ?_
      rintro e z ⟨rfl, hz⟩
      have Z1 : Blk z g (C.setIfInBounds (j * 2) (.int .i64 K)) 108 := Blk.ext C1b.out hz
      have ZB := hid Z1
      have ZO := hid ((HO.out.setCell (j * 2) (.int .i64 K)).ext hz)
      have d2 := (Z1.cell (j * 2 + 1)).trans hx1'
      have f2 := Z1.free
      clear d0 d1 ff C1b hx1' hz Z1
      go_wp2
      go_roundw
      case rel =>
        have hm := flat_at _ _ _ (markL_at n k j hlt)
        have hzz := HZ.out
        refine ⟨j + 1, _, K + 1 + 1, by omega, by go_num, rfl, by rw [HK.out]; omega, ?_, fun q hq => ?_, heap_setCell_same z g (j * 2 + 1) _ _ _ ZB.out, ZO.out.setCell _ _⟩
        · rw [Array.size_setIfInBounds, Array.size_setIfInBounds]; exact hzz
        · by_cases h1 : q = j * 2 + 1
          · subst h1
            rw [Array.getElem?_setIfInBounds_self_of_lt (by rw [Array.size_setIfInBounds]; omega), hm.2]
          · rw [Array.getElem?_setIfInBounds_ne (by omega)]
            by_cases h2 : q = j * 2
            · subst h2
              rw [Array.getElem?_setIfInBounds_self_of_lt (by omega), hm.1, HK.out]
            · rw [Array.getElem?_setIfInBounds_ne (by omega)]
              exact HQ.out q (by omega)
      case measure => simp [intOf]; omega
    · have hjn : j = n := by omega
      subst hjn
      go_wp2
      go_ret
      refine ⟨by rw [HK.out]; rfl, ?_, HO.out⟩
      have e : C = (flat (markL k j)).toArray := by
        apply Array.ext_getElem?
        intro q
        have et : (flat (markL k j)).toArray[q]? = (flat (markL k j))[q]? := by simp
        rw [et]
        by_cases hq : q < j * 2
        · exact HQ.out q hq
        · rw [Array.getElem?_eq_none (by omega), List.getElem?_eq_none (by rw [flat_len, markL_len]; omega)]
      rw [← e]
      exact HB.out

set_option maxHeartbeats 4000000 in
theorem heldSlots (g : Nat) (n k : Nat) (w : World) (hk : k + 2 * n ≤ 1152921504606846900) (h : Blk w g (flat (markL k n)).toArray 108) :
    Calls Tryz.prog 55 #[.slice (some ⟨g, 0, none⟩) n n, .int .i64 k] w fun e w' => e = .returned (.int .i64 ((k + 2 * n : Nat) : Int)) ∧ Below w.heap.size w w' := by
  have H := hid h
  clear h
  go_enter Tryz.func55, Tryz.ntmps55
  go_wp2
  go_loopw [1, 5] (fun kv i wr => ∃ (j : Nat) (K : Int), j ≤ n ∧ i = .int .i64 j ∧ kv = .int .i64 K ∧ K = ((k + 2 * j : Nat) : Int) ∧ Below w.heap.size w wr) (fun _ i _ => n - (intOf i).toNat)
  case atStart => exact ⟨0, k, Nat.zero_le _, rfl, rfl, rfl, Below.refl _ _⟩
  case round =>
    obtain ⟨j, K, hj, rfl, rfl, hK0, hb0⟩ := hrel
    have HK := hid hK0
    have HKN := hid hk
    have HBe := hid hb0
    have K1 : (0 : Int) ≤ K := by omega
    have K2 : K ≤ 1152921504606846976 := by omega
    have hnb : n ≤ 1152921504606846976 := by omega
    by_cases hlt : j < n
    · have e1 : (0 : Int) ≤ (j : Int) := by omega
      have e2 : (j : Int) < (n : Int) := by omega
      have hm := flat_at _ _ _ (markL_at n k j hlt)
      rw [← hK0] at hm
      have bb := H.out.ext hb0
      have d0 : wr.cell? ⟨g, j * 2, none⟩ = some (.int .i64 K) := by rw [bb.cell, List.getElem?_toArray]; exact hm.1
      have d1 : wr.cell? ⟨g, j * 2 + 1, none⟩ = some (.string (markT (k + 2 * j + 1))) := by rw [bb.cell, List.getElem?_toArray]; exact hm.2
      have LT := hid bb.lt
      have D1 := hid d1
      clear hK0 hk hm bb hb0
      go_wp2_with fail
      refine wp_region_held_drew (S := Below wr.heap.size wr) (by kernel_rfl) ((Below.refl _ _).drew) (fun hHeld => ?_)
      simp only [List.size_toArray, List.length_cons, List.length_nil, Nat.reduceAdd, Array.replicate_succ, Array.replicate_zero, List.push_toArray, List.append_toArray, List.nil_append, List.cons_append]
      refine wpAnyH_take (i := 0) (v := ?_) (at_lit rfl) (by kernel_rfl) (by kernel_rfl) (by kernel_rfl) (fun _ _ _ h => h) (Or.inl ⟨by rfl, ?_⟩) hHeld ?_
      rotate_left
      · (intro w9 hSw; clear hSw; go_simp; try with_reducible rfl)
      try simp only [Act.put, List.setIfInBounds_toArray, List.set_cons_zero, List.set_cons_succ]
      refine wpAnyH_take (i := 1) (v := ?_) (at_lit rfl) (by kernel_rfl) (by kernel_rfl) (by kernel_rfl) (fun _ _ _ h => h) (Or.inl ⟨by rfl, ?_⟩) hHeld ?_
      rotate_left
      · (intro w9 hSw; clear hSw; go_simp; try with_reducible rfl)
      try simp only [Act.put, List.setIfInBounds_toArray, List.set_cons_zero, List.set_cons_succ]
      refine wpAnyH_take (i := 2) (v := ?_) (at_lit rfl) (by kernel_rfl) (by kernel_rfl) (by kernel_rfl) (fun _ _ _ h => h) (Or.inl ⟨by rfl, ?_⟩) hHeld ?_
      rotate_left
      · (intro w9 hSw; clear hSw; go_simp; try with_reducible rfl)
      try simp only [Act.put, List.setIfInBounds_toArray, List.set_cons_zero, List.set_cons_succ]
      refine wpAnyH_take (i := 3) (v := ?_) (at_lit rfl) (by kernel_rfl) (by kernel_rfl) (by kernel_rfl) (fun _ _ _ h => h) (Or.inl ⟨by rfl, ?_⟩) hHeld ?_
      rotate_left
      · (intro w9 hSw; clear hSw; go_simp; try with_reducible rfl)
      try simp only [Act.put, List.setIfInBounds_toArray, List.set_cons_zero, List.set_cons_succ]
      refine wpAnyH_take (i := 4) (v := ?_) (at_lit rfl) (by kernel_rfl) (by kernel_rfl) (by kernel_rfl) (fun _ _ _ h => h) (Or.inl ⟨by rfl, ?_⟩) hHeld ?_
      rotate_left
      · (intro w9 hSw; have q := (hSw.cell (p := ⟨g, j * 2 + 1, none⟩) LT.out).trans D1.out; clear hSw; go_simp; try with_reducible rfl)
      try simp only [Act.put, List.setIfInBounds_toArray, List.set_cons_zero, List.set_cons_succ]
      refine wpAnyH_take (i := 5) (v := ?_) (at_lit rfl) (by kernel_rfl) (by kernel_rfl) (by kernel_rfl) (fun _ _ _ h => h) (Or.inl ⟨by rfl, ?_⟩) hHeld ?_
      rotate_left
      · (intro w9 hSw; clear hSw; go_simp; try with_reducible rfl)
      try simp only [Act.put, List.setIfInBounds_toArray, List.set_cons_zero, List.set_cons_succ]
      refine wpAnyH_ready (rs := [6]) (by kernel_rfl) (by simp) ?_
      refine AllReadyH.cons (at_lit rfl) (fun K' hK => ?_) AllReadyH.nil
      go_simp
      refine (markText_int (K + 1) (k + 2 * j + 1) _ (by rw [HK.out]; omega) (by have := HKN.out; omega)).mono ?_
      rintro e z ⟨rfl, hz⟩
      go_wp2_with fail
      refine hK.out _ _ (ext_trans hHeld hz) (fun hNew => ?_)
      clear hK K' hHeld hz
      have hHeld := hNew
      clear hNew
      try simp only [Act.put, List.setIfInBounds_toArray, List.set_cons_zero, List.set_cons_succ]
      refine wpAnyH_take (i := 7) (v := ?_) (at_lit rfl) (by kernel_rfl) (by kernel_rfl) (by kernel_rfl) (fun _ _ _ h => h) (Or.inl ⟨by rfl, ?_⟩) hHeld ?_
      rotate_left
      · (intro w9 hSw; clear hSw; go_simp; try with_reducible rfl)
      try simp only [Act.put, List.setIfInBounds_toArray, List.set_cons_zero, List.set_cons_succ]
      refine wpAnyH_done (by kernel_rfl) ?_ _
      have HF := hid (ext_trans HBe.out hHeld)
      clear hHeld d0 d1
      go_wp2
      go_roundw
      case rel => exact ⟨j + 1, K + 1 + 1, by omega, by go_num, rfl, by rw [HK.out]; omega, HF.out⟩
      case measure => simp [intOf]; omega
    · have hjn : j = n := by omega
      subst hjn
      clear hk hK0
      go_wp2
      go_ret
      exact ⟨by rw [HK.out]; rfl, hb0⟩
end Go.Proofs.YtffklmlljekceaaGreat
