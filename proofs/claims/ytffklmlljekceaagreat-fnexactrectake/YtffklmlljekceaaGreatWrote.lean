/-
  What the law's marks write, whatever the blocks: a list of addresses and values; addresses that are apart read back.
-/
import Derived.Test.YtffklmlljekceaaGreatMarks
namespace Go.Proofs.YtffklmlljekceaaGreat
open Go.ChangeShapes Go.WideShapes Go.ChangeAt Go.RowKit
set_option linter.unusedVariables false
set_option linter.unusedSimpArgs false

abbrev Ws := List (Addr × Value)
/-- ws was written, and all else that was there is as it was -/
structure Wrote (w w' : World) (ws : Ws) : Prop where
  os : w'.os = w.os
  tape : w'.tape = w.tape
  output : w'.output = w.output
  size : w.heap.size ≤ w'.heap.size
  block : ∀ k, k < w.heap.size → (∀ p ∈ ws, p.1.block ≠ k) → w'.heap[k]? = w.heap[k]?
  keep : ∀ a : Addr, a.block < w.heap.size → (∀ p ∈ ws, p.1 ≠ a) → w'.cell? a = w.cell? a
  new : ∀ p ∈ ws, w'.cell? p.1 = some p.2
  free : ∀ a : Addr, a.block < w.heap.size → w'.frozen? a = w.frozen? a
theorem Wrote.refl (w : World) : Wrote w w [] := ⟨rfl, rfl, rfl, Nat.le_refl _, fun _ _ _ => rfl, fun _ _ _ => rfl, fun p hp => by simp at hp, fun _ _ => rfl⟩
theorem Wrote.ext {w w1 w2 : World} {ws : Ws} (h : Wrote w w1 ws) (hin : ∀ p ∈ ws, p.1.block < w.heap.size) (hb : Below w1.heap.size w1 w2) : Wrote w w2 ws :=
  ⟨hb.os.trans h.os, hb.tape.trans h.tape, hb.output.trans h.output, Nat.le_trans h.size hb.size, fun k hk hn => (hb.block k (Nat.lt_of_lt_of_le hk h.size)).trans (h.block k hk hn),
   fun a ha hn => (hb.cell (p := a) (Nat.lt_of_lt_of_le ha h.size)).trans (h.keep a ha hn), fun p hp => (hb.cell (p := p.1) (Nat.lt_of_lt_of_le (hin p hp) h.size)).trans (h.new p hp),
   fun a ha => (World.frozen?_of_block (hb.block a.block (Nat.lt_of_lt_of_le ha h.size))).trans (h.free a ha)⟩
theorem Wrote.set {w w1 : World} {ws : Ws} (h : Wrote w w1 ws) (b o : Nat) (v : Value) (hnew : ∀ p ∈ ws, p.1 ≠ ⟨b, o, none⟩) (hs : (w1.cell? ⟨b, o, none⟩).isSome = true) :
    Wrote w (w1.setCell ⟨b, o, none⟩ v) (ws ++ [(⟨b, o, none⟩, v)]) := by
  refine ⟨h.os, h.tape, h.output, by simpa using h.size, fun k hk hn => ?_, fun a ha hn => ?_, fun p hp => ?_, fun a ha => ?_⟩
  · have h1 := hn (⟨b, o, none⟩, v) (by simp)
    exact (heap_setCell_other w1 ⟨b, o, none⟩ k v (fun e => h1 e.symm)).trans (h.block k hk (fun p hp => hn p (by simp [hp])))
  · have h1 := hn (⟨b, o, none⟩, v) (by simp)
    exact (World.cell?_setCell_other w1 ⟨b, o, none⟩ a v h1).trans (h.keep a ha (fun p hp => hn p (by simp [hp])))
  · simp only [List.mem_append, List.mem_singleton] at hp
    rcases hp with hp | rfl
    · rw [World.cell?_setCell_other w1 ⟨b, o, none⟩ p.1 v (fun e => hnew p hp e.symm)]
      exact h.new p hp
    · exact World.cell?_setCell_same' w1 ⟨b, o, none⟩ v hs
  · rw [World.frozen?_setCell]
    exact h.free a ha
theorem Wrote.trans {w w1 w2 : World} {ws1 ws2 : Ws} (h : Wrote w w1 ws1) (k : Wrote w1 w2 ws2) (hin : ∀ p ∈ ws1, p.1.block < w.heap.size) (hd : ∀ p ∈ ws1, ∀ q ∈ ws2, q.1 ≠ p.1) : Wrote w w2 (ws1 ++ ws2) :=
  ⟨k.os.trans h.os, k.tape.trans h.tape, k.output.trans h.output, Nat.le_trans h.size k.size,
   fun i hi hn => (k.block i (Nat.lt_of_lt_of_le hi h.size) (fun p hp => hn p (by simp [hp]))).trans (h.block i hi (fun p hp => hn p (by simp [hp]))),
   fun a ha hn => (k.keep a (Nat.lt_of_lt_of_le ha h.size) (fun p hp => hn p (by simp [hp]))).trans (h.keep a ha (fun p hp => hn p (by simp [hp]))),
   fun p hp => by
     simp only [List.mem_append] at hp
     rcases hp with hp | hp
     · rw [k.keep p.1 (Nat.lt_of_lt_of_le (hin p hp) h.size) (fun q hq => hd p hp q hq)]; exact h.new p hp
     · exact k.new p hp,
   fun a ha => (k.free a (Nat.lt_of_lt_of_le ha h.size)).trans (h.free a ha)⟩

/-- the j-th cell behind an address -/
def adr (a : Option Addr) (j : Nat) : Addr := match a with | some x => ⟨x.block, x.off + j, none⟩ | none => ⟨0, 0, none⟩
theorem adr_some (b o j : Nat) : adr (some ⟨b, o, none⟩) j = ⟨b, o + j, none⟩ := rfl
/-- m cells behind an address that may be written -/
def Room (w : World) (a : Option Addr) (m : Nat) : Prop :=
  ∀ j, j < m → ∃ b off, a = some ⟨b, off, none⟩ ∧ b < w.heap.size ∧ (w.cell? ⟨b, off + j, none⟩).isSome = true ∧ w.frozen? ⟨b, off + j, none⟩ = false
/-- the marks of slots -/
def wsS (a : Option Addr) (k : Nat) : Nat → Ws
  | 0 => []
  | n + 1 => wsS a k n ++ [(adr a (n * 2), .int .i64 ((k + 2 * n : Nat) : Int)), (adr a (n * 2 + 1), .string (markT (k + 2 * n + 1)))]
def wsI (a : Option Addr) (k : Nat) : Nat → Ws
  | 0 => []
  | n + 1 => wsI a k n ++ [(adr a n, .int .i64 ((k + n : Nat) : Int))]
def wsT (a : Option Addr) (k : Nat) : Nat → Ws
  | 0 => []
  | n + 1 => wsT a k n ++ [(adr a n, .string (markT (k + n)))]
theorem wsS_mem : ∀ (a : Option Addr) (k n : Nat) (p : Addr × Value), p ∈ wsS a k n → ∃ j, j < n * 2 ∧ p.1 = adr a j
  | a, k, 0, p, h => by simp [wsS] at h
  | a, k, n + 1, p, h => by
    simp only [wsS, List.mem_append, List.mem_cons, List.not_mem_nil, or_false] at h
    rcases h with h | rfl | rfl
    · obtain ⟨j, hj, e⟩ := wsS_mem a k n p h
      exact ⟨j, by omega, e⟩
    · exact ⟨n * 2, by omega, rfl⟩
    · exact ⟨n * 2 + 1, by omega, rfl⟩
theorem wsI_mem : ∀ (a : Option Addr) (k n : Nat) (p : Addr × Value), p ∈ wsI a k n → ∃ j, j < n ∧ p.1 = adr a j
  | a, k, 0, p, h => by simp [wsI] at h
  | a, k, n + 1, p, h => by
    simp only [wsI, List.mem_append, List.mem_cons, List.not_mem_nil, or_false] at h
    rcases h with h | rfl
    · obtain ⟨j, hj, e⟩ := wsI_mem a k n p h
      exact ⟨j, by omega, e⟩
    · exact ⟨n, by omega, rfl⟩
theorem wsT_mem : ∀ (a : Option Addr) (k n : Nat) (p : Addr × Value), p ∈ wsT a k n → ∃ j, j < n ∧ p.1 = adr a j
  | a, k, 0, p, h => by simp [wsT] at h
  | a, k, n + 1, p, h => by
    simp only [wsT, List.mem_append, List.mem_cons, List.not_mem_nil, or_false] at h
    rcases h with h | rfl
    · obtain ⟨j, hj, e⟩ := wsT_mem a k n p h
      exact ⟨j, by omega, e⟩
    · exact ⟨n, by omega, rfl⟩
-- loops
theorem adr_ne {b off i j : Nat} (h : i ≠ j) : adr (some ⟨b, off, none⟩) i ≠ (⟨b, off + j, none⟩ : Addr) := fun e => by
  rw [adr_some] at e
  simp only [Addr.mk.injEq, true_and, and_true] at e
  omega
theorem all_snoc {ws : Ws} {x : Addr × Value} {P : Addr × Value → Prop} (h1 : ∀ p ∈ ws, P p) (h2 : P x) : ∀ p ∈ ws ++ [x], P p := fun p hp => by
  simp only [List.mem_append, List.mem_singleton] at hp
  rcases hp with hp | rfl
  · exact h1 p hp
  · exact h2
theorem some_of_isSome {α : Type} {o : Option α} (h : o.isSome = true) : ∃ x, o = some x := Option.isSome_iff_exists.1 h

set_option maxHeartbeats 4000000 in
theorem markS_any (a : Option Addr) (n cap k : Nat) (w : World) (hk : k + 2 * n ≤ 1152921504606846900) (h : Room w a (n * 2)) :
    Calls Tryz.prog 50 #[.slice a n cap, .int .i64 k] w fun e w' => e = .returned (.int .i64 ((k + 2 * n : Nat) : Int)) ∧ Wrote w w' (wsS a k n) := by
  have H := hid h
  clear h
  go_enter Tryz.func50, Tryz.ntmps50
  go_wp2
  go_loopw [1, 5] (fun kv i wr => ∃ (j : Nat) (K : Int), j ≤ n ∧ i = .int .i64 j ∧ kv = .int .i64 K ∧ K = ((k + 2 * j : Nat) : Int) ∧ Wrote w wr (wsS a k j)) (fun _ i _ => n - (intOf i).toNat)
  case atStart => exact ⟨0, k, Nat.zero_le _, rfl, rfl, rfl, Wrote.refl _⟩
  case round =>
    obtain ⟨j, K, hj, rfl, rfl, hK0, ho0⟩ := hrel
    have HO := hid ho0
    have HK := hid hK0
    have HKN := hid hk
    have K1 : (0 : Int) ≤ K := by omega
    have K2 : K ≤ 1152921504606846976 := by omega
    have hnb : n ≤ 1152921504606846976 := by omega
    clear ho0 hK0 hk
    by_cases hlt : j < n
    · have e1 : (0 : Int) ≤ (j : Int) := by omega
      have e2 : (j : Int) < (n : Int) := by omega
      obtain ⟨b, off, rfl, hb, s0, f0⟩ := H.out (j * 2) (by omega)
      obtain ⟨b', off', ee, _, s1, f1⟩ := H.out (j * 2 + 1) (by omega)
      simp only [Option.some.injEq, Addr.mk.injEq, and_true] at ee
      obtain ⟨rfl, rfl⟩ := ee
      have N0 := hid (show ∀ p ∈ wsS (some ⟨b, off, none⟩) k j, p.1 ≠ ⟨b, off + j * 2, none⟩ from fun p hp => by obtain ⟨q, hq, e⟩ := wsS_mem _ _ _ p hp; rw [e]; exact adr_ne (by omega))
      have N1 := hid (show ∀ p ∈ wsS (some ⟨b, off, none⟩) k j, p.1 ≠ ⟨b, off + (j * 2 + 1), none⟩ from fun p hp => by obtain ⟨q, hq, e⟩ := wsS_mem _ _ _ p hp; rw [e]; exact adr_ne (by omega))
      have IN := hid (show ∀ p ∈ wsS (some ⟨b, off, none⟩) k j, p.1.block < w.heap.size from fun p hp => by obtain ⟨q, hq, e⟩ := wsS_mem _ _ _ p hp; rw [e]; exact hb)
      obtain ⟨x0, hx0⟩ := some_of_isSome s0
      obtain ⟨x1, hx1⟩ := some_of_isSome s1
      have d0 := (HO.out.keep ⟨b, off + j * 2, none⟩ hb N0.out).trans hx0
      have ff0 := (HO.out.free ⟨b, off + j * 2, none⟩ hb).trans f0
      have W1 := hid (HO.out.set b (off + j * 2) (.int .i64 K) N0.out (by rw [d0]; rfl))
      have HB := hid hb
      have F1 := hid f1
      have X1 := hid hx1
      clear hx0 hx1 s0 s1 f0 f1
      go_wp2_with fail
      refine (markText_int (K + 1) (k + 2 * j + 1) _ (by rw [HK.out]; omega) (by have := HKN.out; omega)).mono ?_
      rintro e z ⟨rfl, hz⟩
      have W2 := hid (W1.out.ext (all_snoc IN.out HB.out) hz)
      have N2 := hid (show ∀ p ∈ wsS (some ⟨b, off, none⟩) k j ++ [((⟨b, off + j * 2, none⟩ : Addr), Value.int .i64 K)], p.1 ≠ ⟨b, off + j * 2 + 1, none⟩ from fun p hp => by
        simp only [List.mem_append, List.mem_singleton] at hp
        rcases hp with hp | rfl
        · exact N1.out p hp
        · simp)
      have d2 := (W2.out.keep ⟨b, off + j * 2 + 1, none⟩ HB.out N2.out).trans X1.out
      have f2 := (W2.out.free ⟨b, off + j * 2 + 1, none⟩ HB.out).trans F1.out
      have W3 := hid (W2.out.set b (off + j * 2 + 1) (.string (markT (k + 2 * j + 1))) N2.out (by rw [d2]; rfl))
      clear d0 ff0 hz W1 W2
      go_wp2
      go_roundw
      case rel =>
        refine ⟨j + 1, K + 1 + 1, by omega, by go_num, rfl, by rw [HK.out]; omega, ?_⟩
        have h9 := W3.out
        rw [List.append_assoc, HK.out] at h9
        exact h9
      case measure => simp [intOf]; omega
    · have hjn : j = n := by omega
      subst hjn
      go_wp2
      go_ret
      exact ⟨by rw [HK.out]; rfl, HO.out⟩

theorem wsS_at : ∀ (a : Option Addr) (k n j : Nat), j < n → (adr a (j * 2), Value.int .i64 ((k + 2 * j : Nat) : Int)) ∈ wsS a k n ∧ (adr a (j * 2 + 1), Value.string (markT (k + 2 * j + 1))) ∈ wsS a k n
  | a, k, 0, j, h => absurd h (by omega)
  | a, k, n + 1, j, h => by
    by_cases e : j = n
    · subst e; simp [wsS]
    · have := wsS_at a k n j (by omega)
      exact ⟨by simp only [wsS, List.mem_append]; exact .inl this.1, by simp only [wsS, List.mem_append]; exact .inl this.2⟩
theorem Room.wrote {w w' : World} {a : Option Addr} {m : Nat} {ws : Ws} (h : Room w a m) (k : Wrote w w' ws) : Room w' a m := fun j hj => by
  obtain ⟨b, off, ha, hb, hs, hf⟩ := h j hj
  refine ⟨b, off, ha, Nat.lt_of_lt_of_le hb k.size, ?_, (k.free _ hb).trans hf⟩
  by_cases hp : ∃ p ∈ ws, p.1 = ⟨b, off + j, none⟩
  · obtain ⟨p, hp, e⟩ := hp
    rw [← e, k.new p hp]; rfl
  · rw [k.keep _ hb (fun p hp' e => hp ⟨p, hp', e⟩)]; exact hs
theorem Room.ext {w w' : World} {a : Option Addr} {m : Nat} (h : Room w a m) (k : Below w.heap.size w w') : Room w' a m := fun j hj => by
  obtain ⟨b, off, ha, hb, hs, hf⟩ := h j hj
  exact ⟨b, off, ha, Nat.lt_of_lt_of_le hb k.size, by rw [k.cell (p := ⟨b, off + j, none⟩) hb]; exact hs, (World.frozen?_of_block (k.block b hb)).trans hf⟩

set_option maxHeartbeats 4000000 in
theorem heldS_any (a : Option Addr) (n cap k : Nat) (w : World) (hk : k + 2 * n ≤ 1152921504606846900) (h : Room w a (n * 2)) (hv : ∀ p ∈ wsS a k n, w.cell? p.1 = some p.2) :
    Calls Tryz.prog 55 #[.slice a n cap, .int .i64 k] w fun e w' => e = .returned (.int .i64 ((k + 2 * n : Nat) : Int)) ∧ Below w.heap.size w w' := by
  have H := hid h
  have HV := hid hv
  clear h hv
  go_enter Tryz.func55, Tryz.ntmps55
  go_wp2
  go_loopw [1, 5] (fun kv i wr => ∃ (j : Nat) (K : Int), j ≤ n ∧ i = .int .i64 j ∧ kv = .int .i64 K ∧ K = ((k + 2 * j : Nat) : Int) ∧ Below w.heap.size w wr) (fun _ i _ => n - (intOf i).toNat)
  case atStart => exact ⟨0, k, Nat.zero_le _, rfl, rfl, rfl, Below.refl _ _⟩
  case round =>
    obtain ⟨j, K, hj, rfl, rfl, hK0, hb0⟩ := hrel
    have HK := hid hK0
    have HKN := hid hk
    have HBe := hid hb0
    have K1 : (0 : Int) ≤ K := by omega
    have K2 : K ≤ 1152921504606846976 := by omega
    have hnb : n ≤ 1152921504606846976 := by omega
    by_cases hlt : j < n
    · have e1 : (0 : Int) ≤ (j : Int) := by omega
      have e2 : (j : Int) < (n : Int) := by omega
      obtain ⟨b, off, rfl, hb, s0, f0⟩ := H.out (j * 2) (by omega)
      have hm := wsS_at (some ⟨b, off, none⟩) k n j hlt
      have m0 := HV.out _ hm.1
      have m1 := HV.out _ hm.2
      rw [← hK0] at m0
      have d0 : wr.cell? ⟨b, off + j * 2, none⟩ = some (.int .i64 K) := (hb0.cell (p := ⟨b, off + j * 2, none⟩) hb).trans m0
      have d1 : wr.cell? ⟨b, off + j * 2 + 1, none⟩ = some (.string (markT (k + 2 * j + 1))) := (hb0.cell (p := ⟨b, off + j * 2 + 1, none⟩) hb).trans m1
      have LT := hid (show b < wr.heap.size from Nat.lt_of_lt_of_le hb hb0.size)
      have D1 := hid d1
      clear hK0 hk hm hb0 m0 m1 s0 f0
      go_wp2_with fail
      refine wp_region_held_drew (S := Below wr.heap.size wr) (by kernel_rfl) ((Below.refl _ _).drew) (fun hHeld => ?_)
      simp only [List.size_toArray, List.length_cons, List.length_nil, Nat.reduceAdd, Array.replicate_succ, Array.replicate_zero, List.push_toArray, List.append_toArray, List.nil_append, List.cons_append]
      refine wpAnyH_take (i := 0) (v := ?_) (at_lit rfl) (by kernel_rfl) (by kernel_rfl) (by kernel_rfl) (fun _ _ _ h => h) (Or.inl ⟨by rfl, ?_⟩) hHeld ?_
      rotate_left
      · (intro w9 hSw; clear hSw; go_simp; try with_reducible rfl)
      try simp only [Act.put, List.setIfInBounds_toArray, List.set_cons_zero, List.set_cons_succ]
      refine wpAnyH_take (i := 1) (v := ?_) (at_lit rfl) (by kernel_rfl) (by kernel_rfl) (by kernel_rfl) (fun _ _ _ h => h) (Or.inl ⟨by rfl, ?_⟩) hHeld ?_
      rotate_left
      · (intro w9 hSw; clear hSw; go_simp; try with_reducible rfl)
      try simp only [Act.put, List.setIfInBounds_toArray, List.set_cons_zero, List.set_cons_succ]
      refine wpAnyH_take (i := 2) (v := ?_) (at_lit rfl) (by kernel_rfl) (by kernel_rfl) (by kernel_rfl) (fun _ _ _ h => h) (Or.inl ⟨by rfl, ?_⟩) hHeld ?_
      rotate_left
      · (intro w9 hSw; clear hSw; go_simp; try with_reducible rfl)
      try simp only [Act.put, List.setIfInBounds_toArray, List.set_cons_zero, List.set_cons_succ]
      refine wpAnyH_take (i := 3) (v := ?_) (at_lit rfl) (by kernel_rfl) (by kernel_rfl) (by kernel_rfl) (fun _ _ _ h => h) (Or.inl ⟨by rfl, ?_⟩) hHeld ?_
      rotate_left
      · (intro w9 hSw; clear hSw; go_simp; try with_reducible rfl)
      try simp only [Act.put, List.setIfInBounds_toArray, List.set_cons_zero, List.set_cons_succ]
      refine wpAnyH_take (i := 4) (v := ?_) (at_lit rfl) (by kernel_rfl) (by kernel_rfl) (by kernel_rfl) (fun _ _ _ h => h) (Or.inl ⟨by rfl, ?_⟩) hHeld ?_
      rotate_left
      · (intro w9 hSw; have q := (hSw.cell (p := ⟨b, off + j * 2 + 1, none⟩) LT.out).trans D1.out; clear hSw; go_simp; try with_reducible rfl)
      try simp only [Act.put, List.setIfInBounds_toArray, List.set_cons_zero, List.set_cons_succ]
      refine wpAnyH_take (i := 5) (v := ?_) (at_lit rfl) (by kernel_rfl) (by kernel_rfl) (by kernel_rfl) (fun _ _ _ h => h) (Or.inl ⟨by rfl, ?_⟩) hHeld ?_
      rotate_left
      · (intro w9 hSw; clear hSw; go_simp; try with_reducible rfl)
      try simp only [Act.put, List.setIfInBounds_toArray, List.set_cons_zero, List.set_cons_succ]
      refine wpAnyH_ready (rs := [6]) (by kernel_rfl) (by simp) ?_
      refine AllReadyH.cons (at_lit rfl) (fun K' hK => ?_) AllReadyH.nil
      go_simp
      refine (markText_int (K + 1) (k + 2 * j + 1) _ (by rw [HK.out]; omega) (by have := HKN.out; omega)).mono ?_
      rintro e z ⟨rfl, hz⟩
      go_wp2_with fail
      refine hK.out _ _ (ext_trans hHeld hz) (fun hNew => ?_)
      clear hK K' hHeld hz
      have hHeld := hNew
      clear hNew
      try simp only [Act.put, List.setIfInBounds_toArray, List.set_cons_zero, List.set_cons_succ]
      refine wpAnyH_take (i := 7) (v := ?_) (at_lit rfl) (by kernel_rfl) (by kernel_rfl) (by kernel_rfl) (fun _ _ _ h => h) (Or.inl ⟨by rfl, ?_⟩) hHeld ?_
      rotate_left
      · (intro w9 hSw; clear hSw; go_simp; try with_reducible rfl)
      try simp only [Act.put, List.setIfInBounds_toArray, List.set_cons_zero, List.set_cons_succ]
      refine wpAnyH_done (by kernel_rfl) ?_ _
      have HF := hid (ext_trans HBe.out hHeld)
      clear hHeld d0 d1
      go_wp2
      go_roundw
      case rel => exact ⟨j + 1, K + 1 + 1, by omega, by go_num, rfl, by rw [HK.out]; omega, HF.out⟩
      case measure => simp [intOf]; omega
    · have hjn : j = n := by omega
      subst hjn
      clear hk hK0
      go_wp2
      go_ret
      exact ⟨by rw [HK.out]; rfl, hb0⟩

theorem wsI_at : ∀ (a : Option Addr) (k n j : Nat), j < n → (adr a j, Value.int .i64 ((k + j : Nat) : Int)) ∈ wsI a k n
  | a, k, 0, j, h => absurd h (by omega)
  | a, k, n + 1, j, h => by
    by_cases e : j = n
    · subst e; simp [wsI]
    · have := wsI_at a k n j (by omega)
      simp only [wsI, List.mem_append]; exact .inl this
set_option maxHeartbeats 4000000 in
theorem markI_any (a : Option Addr) (n cap k : Nat) (w : World) (hk : k + n ≤ 1152921504606846900) (h : Room w a n) :
    Calls Tryz.prog 49 #[.slice a n cap, .int .i64 k] w fun e w' => e = .returned (.int .i64 ((k + n : Nat) : Int)) ∧ Wrote w w' (wsI a k n) := by
  have H := hid h
  clear h
  go_enter Tryz.func49, Tryz.ntmps49
  go_wp2
  go_loopw [1, 5] (fun kv i wr => ∃ (j : Nat) (K : Int), j ≤ n ∧ i = .int .i64 j ∧ kv = .int .i64 K ∧ K = ((k + j : Nat) : Int) ∧ Wrote w wr (wsI a k j)) (fun _ i _ => n - (intOf i).toNat)
  case atStart => exact ⟨0, k, Nat.zero_le _, rfl, rfl, rfl, Wrote.refl _⟩
  case round =>
    obtain ⟨j, K, hj, rfl, rfl, hK0, ho0⟩ := hrel
    have HO := hid ho0
    have HK := hid hK0
    have HKN := hid hk
    have K1 : (0 : Int) ≤ K := by omega
    have K2 : K ≤ 1152921504606846976 := by omega
    have hnb : n ≤ 1152921504606846976 := by omega
    clear ho0 hK0 hk
    by_cases hlt : j < n
    · have e1 : (0 : Int) ≤ (j : Int) := by omega
      have e2 : (j : Int) < (n : Int) := by omega
      obtain ⟨b, off, rfl, hb, s0, f0⟩ := H.out j (by omega)
      have N0 := hid (show ∀ p ∈ wsI (some ⟨b, off, none⟩) k j, p.1 ≠ ⟨b, off + j, none⟩ from fun p hp => by obtain ⟨q, hq, e⟩ := wsI_mem _ _ _ p hp; rw [e]; exact adr_ne (by omega))
      have IN := hid (show ∀ p ∈ wsI (some ⟨b, off, none⟩) k j, p.1.block < w.heap.size from fun p hp => by obtain ⟨q, hq, e⟩ := wsI_mem _ _ _ p hp; rw [e]; exact hb)
      obtain ⟨x0, hx0⟩ := some_of_isSome s0
      have HB := hid hb
      have d2 := (HO.out.keep ⟨b, off + j, none⟩ hb N0.out).trans hx0
      have f2 := (HO.out.free ⟨b, off + j, none⟩ hb).trans f0
      have W3 := hid (HO.out.set b (off + j) (.int .i64 K) N0.out (by rw [d2]; rfl))
      clear hx0 s0 f0
      go_wp2
      go_roundw
      case rel =>
        refine ⟨j + 1, K + 1, by omega, by go_num, rfl, by rw [HK.out]; omega, ?_⟩
        show Wrote w _ (wsI (some ⟨b, off, none⟩) k j ++ [(⟨b, off + j, none⟩, .int .i64 ((k + j : Nat) : Int))])
        rw [← HK.out]
        exact W3.out
      case measure => simp [intOf]; omega
    · have hjn : j = n := by omega
      subst hjn
      go_wp2
      go_ret
      exact ⟨by rw [HK.out]; rfl, HO.out⟩

set_option maxHeartbeats 4000000 in
theorem heldI_any (a : Option Addr) (n cap k : Nat) (w : World) (hk : k + n ≤ 1152921504606846900) (h : Room w a n) (hv : ∀ p ∈ wsI a k n, w.cell? p.1 = some p.2) :
    Calls Tryz.prog 54 #[.slice a n cap, .int .i64 k] w fun e w' => e = .returned (.int .i64 ((k + n : Nat) : Int)) ∧ Below w.heap.size w w' := by
  have H := hid h
  have HV := hid hv
  clear h hv
  go_enter Tryz.func54, Tryz.ntmps54
  go_wp2
  go_loopw [1, 5] (fun kv i wr => ∃ (j : Nat) (K : Int), j ≤ n ∧ i = .int .i64 j ∧ kv = .int .i64 K ∧ K = ((k + j : Nat) : Int) ∧ Below w.heap.size w wr) (fun _ i _ => n - (intOf i).toNat)
  case atStart => exact ⟨0, k, Nat.zero_le _, rfl, rfl, rfl, Below.refl _ _⟩
  case round =>
    obtain ⟨j, K, hj, rfl, rfl, hK0, hb0⟩ := hrel
    have HK := hid hK0
    have HKN := hid hk
    have HBe := hid hb0
    have K1 : (0 : Int) ≤ K := by omega
    have K2 : K ≤ 1152921504606846976 := by omega
    have hnb : n ≤ 1152921504606846976 := by omega
    by_cases hlt : j < n
    · have e1 : (0 : Int) ≤ (j : Int) := by omega
      have e2 : (j : Int) < (n : Int) := by omega
      obtain ⟨b, off, rfl, hb, s0, f0⟩ := H.out j (by omega)
      have m0 := HV.out _ (wsI_at (some ⟨b, off, none⟩) k n j hlt)
      rw [← hK0] at m0
      have d0 : wr.cell? ⟨b, off + j, none⟩ = some (.int .i64 K) := (hb0.cell (p := ⟨b, off + j, none⟩) hb).trans m0
      have LT := hid (show b < wr.heap.size from Nat.lt_of_lt_of_le hb hb0.size)
      have D0 := hid d0
      clear hK0 hk hb0 m0 s0 f0
      go_wp2
      go_roundw
      case rel => exact ⟨j + 1, K + 1, by omega, by go_num, rfl, by rw [HK.out]; omega, HBe.out⟩
      case measure => simp [intOf]; omega
    · have hjn : j = n := by omega
      subst hjn
      clear hk hK0
      go_wp2
      go_ret
      exact ⟨by rw [HK.out]; rfl, hb0⟩

theorem wsT_at : ∀ (a : Option Addr) (k n j : Nat), j < n → (adr a j, Value.string (markT (k + j))) ∈ wsT a k n
  | a, k, 0, j, h => absurd h (by omega)
  | a, k, n + 1, j, h => by
    by_cases e : j = n
    · subst e; simp [wsT]
    · have := wsT_at a k n j (by omega)
      simp only [wsT, List.mem_append]; exact .inl this
set_option maxHeartbeats 4000000 in
theorem markT_any (a : Option Addr) (n cap k : Nat) (w : World) (hk : k + n ≤ 1152921504606846900) (h : Room w a n) :
    Calls Tryz.prog 48 #[.slice a n cap, .int .i64 k] w fun e w' => e = .returned (.int .i64 ((k + n : Nat) : Int)) ∧ Wrote w w' (wsT a k n) := by
  have H := hid h
  clear h
  go_enter Tryz.func48, Tryz.ntmps48
  go_wp2
  go_loopw [1, 5] (fun kv i wr => ∃ (j : Nat) (K : Int), j ≤ n ∧ i = .int .i64 j ∧ kv = .int .i64 K ∧ K = ((k + j : Nat) : Int) ∧ Wrote w wr (wsT a k j)) (fun _ i _ => n - (intOf i).toNat)
  case atStart => exact ⟨0, k, Nat.zero_le _, rfl, rfl, rfl, Wrote.refl _⟩
  case round =>
    obtain ⟨j, K, hj, rfl, rfl, hK0, ho0⟩ := hrel
    have HO := hid ho0
    have HK := hid hK0
    have HKN := hid hk
    have K1 : (0 : Int) ≤ K := by omega
    have K2 : K ≤ 1152921504606846976 := by omega
    have hnb : n ≤ 1152921504606846976 := by omega
    clear ho0 hK0 hk
    by_cases hlt : j < n
    · have e1 : (0 : Int) ≤ (j : Int) := by omega
      have e2 : (j : Int) < (n : Int) := by omega
      obtain ⟨b, off, rfl, hb, s0, f0⟩ := H.out j (by omega)
      have N0 := hid (show ∀ p ∈ wsT (some ⟨b, off, none⟩) k j, p.1 ≠ ⟨b, off + j, none⟩ from fun p hp => by obtain ⟨q, hq, e⟩ := wsT_mem _ _ _ p hp; rw [e]; exact adr_ne (by omega))
      have IN := hid (show ∀ p ∈ wsT (some ⟨b, off, none⟩) k j, p.1.block < w.heap.size from fun p hp => by obtain ⟨q, hq, e⟩ := wsT_mem _ _ _ p hp; rw [e]; exact hb)
      obtain ⟨x0, hx0⟩ := some_of_isSome s0
      have HB := hid hb
      have X0 := hid hx0
      have F0 := hid f0
      clear hx0 s0 f0
      go_wp2_with fail
      refine (markText_int K (k + j) _ HK.out (by have := HKN.out; omega)).mono ?_
      rintro e z ⟨rfl, hz⟩
      have W2 := hid (HO.out.ext IN.out hz)
      have d2 := (W2.out.keep ⟨b, off + j, none⟩ HB.out N0.out).trans X0.out
      have f2 := (W2.out.free ⟨b, off + j, none⟩ HB.out).trans F0.out
      have W3 := hid (W2.out.set b (off + j) (.string (markT (k + j))) N0.out (by rw [d2]; rfl))
      clear hz W2
      go_wp2
      go_roundw
      case rel => exact ⟨j + 1, K + 1, by omega, by go_num, rfl, by rw [HK.out]; omega, W3.out⟩
      case measure => simp [intOf]; omega
    · have hjn : j = n := by omega
      subst hjn
      go_wp2
      go_ret
      exact ⟨by rw [HK.out]; rfl, HO.out⟩

set_option maxHeartbeats 4000000 in
theorem heldT_any (a : Option Addr) (n cap k : Nat) (w : World) (hk : k + n ≤ 1152921504606846900) (h : Room w a n) (hv : ∀ p ∈ wsT a k n, w.cell? p.1 = some p.2) :
    Calls Tryz.prog 53 #[.slice a n cap, .int .i64 k] w fun e w' => e = .returned (.int .i64 ((k + n : Nat) : Int)) ∧ Below w.heap.size w w' := by
  have H := hid h
  have HV := hid hv
  clear h hv
  go_enter Tryz.func53, Tryz.ntmps53
  go_wp2
  go_loopw [1, 5] (fun kv i wr => ∃ (j : Nat) (K : Int), j ≤ n ∧ i = .int .i64 j ∧ kv = .int .i64 K ∧ K = ((k + j : Nat) : Int) ∧ Below w.heap.size w wr) (fun _ i _ => n - (intOf i).toNat)
  case atStart => exact ⟨0, k, Nat.zero_le _, rfl, rfl, rfl, Below.refl _ _⟩
  case round =>
    obtain ⟨j, K, hj, rfl, rfl, hK0, hb0⟩ := hrel
    have HK := hid hK0
    have HKN := hid hk
    have HBe := hid hb0
    have K1 : (0 : Int) ≤ K := by omega
    have K2 : K ≤ 1152921504606846976 := by omega
    have hnb : n ≤ 1152921504606846976 := by omega
    by_cases hlt : j < n
    · have e1 : (0 : Int) ≤ (j : Int) := by omega
      have e2 : (j : Int) < (n : Int) := by omega
      obtain ⟨b, off, rfl, hb, s0, f0⟩ := H.out j (by omega)
      have m0 := HV.out _ (wsT_at (some ⟨b, off, none⟩) k n j hlt)
      have d0 : wr.cell? ⟨b, off + j, none⟩ = some (.string (markT (k + j))) := (hb0.cell (p := ⟨b, off + j, none⟩) hb).trans m0
      have LT := hid (show b < wr.heap.size from Nat.lt_of_lt_of_le hb hb0.size)
      have D0 := hid d0
      clear hK0 hk hb0 m0 s0 f0
      go_wp2_with fail
      refine wp_region_held_drew (S := Below wr.heap.size wr) (by kernel_rfl) ((Below.refl _ _).drew) (fun hHeld => ?_)
      simp only [List.size_toArray, List.length_cons, List.length_nil, Nat.reduceAdd, Array.replicate_succ, Array.replicate_zero, List.push_toArray, List.append_toArray, List.nil_append, List.cons_append]
      refine wpAnyH_take (i := 0) (v := ?_) (at_lit rfl) (by kernel_rfl) (by kernel_rfl) (by kernel_rfl) (fun _ _ _ h => h) (Or.inl ⟨by rfl, ?_⟩) hHeld ?_
      rotate_left
      · (intro w9 hSw; clear hSw; go_simp; try with_reducible rfl)
      try simp only [Act.put, List.setIfInBounds_toArray, List.set_cons_zero, List.set_cons_succ]
      refine wpAnyH_take (i := 1) (v := ?_) (at_lit rfl) (by kernel_rfl) (by kernel_rfl) (by kernel_rfl) (fun _ _ _ h => h) (Or.inl ⟨by rfl, ?_⟩) hHeld ?_
      rotate_left
      · (intro w9 hSw; clear hSw; go_simp; try with_reducible rfl)
      try simp only [Act.put, List.setIfInBounds_toArray, List.set_cons_zero, List.set_cons_succ]
      refine wpAnyH_take (i := 2) (v := ?_) (at_lit rfl) (by kernel_rfl) (by kernel_rfl) (by kernel_rfl) (fun _ _ _ h => h) (Or.inl ⟨by rfl, ?_⟩) hHeld ?_
      rotate_left
      · (intro w9 hSw; clear hSw; go_simp; try with_reducible rfl)
      try simp only [Act.put, List.setIfInBounds_toArray, List.set_cons_zero, List.set_cons_succ]
      refine wpAnyH_take (i := 3) (v := ?_) (at_lit rfl) (by kernel_rfl) (by kernel_rfl) (by kernel_rfl) (fun _ _ _ h => h) (Or.inl ⟨by rfl, ?_⟩) hHeld ?_
      rotate_left
      · (intro w9 hSw; have q := (hSw.cell (p := ⟨b, off + j, none⟩) LT.out).trans D0.out; clear hSw; go_simp; try with_reducible rfl)
      try simp only [Act.put, List.setIfInBounds_toArray, List.set_cons_zero, List.set_cons_succ]
      refine wpAnyH_take (i := 4) (v := ?_) (at_lit rfl) (by kernel_rfl) (by kernel_rfl) (by kernel_rfl) (fun _ _ _ h => h) (Or.inl ⟨by rfl, ?_⟩) hHeld ?_
      rotate_left
      · (intro w9 hSw; clear hSw; go_simp; try with_reducible rfl)
      try simp only [Act.put, List.setIfInBounds_toArray, List.set_cons_zero, List.set_cons_succ]
      refine wpAnyH_ready (rs := [5]) (by kernel_rfl) (by simp) ?_
      refine AllReadyH.cons (at_lit rfl) (fun K' hK => ?_) AllReadyH.nil
      go_simp
      refine (markText_int K (k + j) _ HK.out (by have := HKN.out; omega)).mono ?_
      rintro e z ⟨rfl, hz⟩
      go_wp2_with fail
      refine hK.out _ _ (ext_trans hHeld hz) (fun hNew => ?_)
      clear hK K' hHeld hz
      have hHeld := hNew
      clear hNew
      try simp only [Act.put, List.setIfInBounds_toArray, List.set_cons_zero, List.set_cons_succ]
      refine wpAnyH_take (i := 6) (v := ?_) (at_lit rfl) (by kernel_rfl) (by kernel_rfl) (by kernel_rfl) (fun _ _ _ h => h) (Or.inl ⟨by rfl, ?_⟩) hHeld ?_
      rotate_left
      · (intro w9 hSw; clear hSw; go_simp; try with_reducible rfl)
      try simp only [Act.put, List.setIfInBounds_toArray, List.set_cons_zero, List.set_cons_succ]
      refine wpAnyH_done (by kernel_rfl) ?_ _
      have HF := hid (ext_trans HBe.out hHeld)
      clear hHeld d0
      go_wp2
      go_roundw
      case rel => exact ⟨j + 1, K + 1, by omega, by go_num, rfl, by rw [HK.out]; omega, HF.out⟩
      case measure => simp [intOf]; omega
    · have hjn : j = n := by omega
      subst hjn
      clear hk hK0
      go_wp2
      go_ret
      exact ⟨by rw [HK.out]; rfl, hb0⟩
end Go.Proofs.YtffklmlljekceaaGreat
