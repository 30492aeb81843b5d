import Derived.Test.YtffklmlljekceaaGreatQ10
namespace Go.Proofs.YtffklmlljekceaaGreat
open Go.ChangeShapes Go.WideShapes Go.ChangeAt Go.RowKit
set_option linter.unusedSimpArgs false
set_option linter.unusedVariables false
set_option maxHeartbeats 8000000
set_option maxRecDepth 20000
theorem markI_int (a : Option Addr) (n cap k : Nat) (K : Int) (w : World) (hK : K = (k : Int)) (hk : k + n ≤ 1152921504606846900) (h : Room w a n) :
  Calls Tryz.prog 49 #[.slice a n cap, .int .i64 K] w fun e w' => e = .returned (.int .i64 ((k + n : Nat) : Int)) ∧ Wrote w w' (wsI a k n) := by subst hK; exact markI_any a n cap k w hk h
theorem heldI_int (a : Option Addr) (n cap k : Nat) (K : Int) (w : World) (hK : K = (k : Int)) (hk : k + n ≤ 1152921504606846900) (h : Room w a n) (hv : ∀ p ∈ wsI a k n, w.cell? p.1 = some p.2) :
  Calls Tryz.prog 54 #[.slice a n cap, .int .i64 K] w fun e w' => e = .returned (.int .i64 ((k + n : Nat) : Int)) ∧ Below w.heap.size w w' := by subst hK; exact heldI_any a n cap k w hk h hv
theorem markS_int (a : Option Addr) (n cap k : Nat) (K : Int) (w : World) (hK : K = (k : Int)) (hk : k + 2 * n ≤ 1152921504606846900) (h : Room w a (n * 2)) :
  Calls Tryz.prog 50 #[.slice a n cap, .int .i64 K] w fun e w' => e = .returned (.int .i64 ((k + 2 * n : Nat) : Int)) ∧ Wrote w w' (wsS a k n) := by subst hK; exact markS_any a n cap k w hk h
theorem heldS_int (a : Option Addr) (n cap k : Nat) (K : Int) (w : World) (hK : K = (k : Int)) (hk : k + 2 * n ≤ 1152921504606846900) (h : Room w a (n * 2)) (hv : ∀ p ∈ wsS a k n, w.cell? p.1 = some p.2) :
  Calls Tryz.prog 55 #[.slice a n cap, .int .i64 K] w fun e w' => e = .returned (.int .i64 ((k + 2 * n : Nat) : Int)) ∧ Below w.heap.size w w' := by subst hK; exact heldS_any a n cap k w hk h hv
def kA (N : Nat → Nat) (k : Nat) : Nat → Nat
 | 0 => k
 | n + 1 => kA N k n + 1 + N n
theorem kA_le (N : Nat → Nat) (k : Nat) : ∀ (i j : Nat), i ≤ j → kA N k i ≤ kA N k j
 | i, 0, h => by rw [show i = 0 by omega]; exact Nat.le_refl _
 | i, j + 1, h => by
  by_cases e : i = j + 1
  ·rw [e]; exact Nat.le_refl _
  have := kA_le N k i j (by omega)
  simp only [kA]
  omega
theorem kA_step (N : Nat → Nat) (k j : Nat) : kA N k (j + 1) = kA N k j + 1 + N j := rfl
def wsA (a : Option Addr) (A : Nat → Option Addr) (N : Nat → Nat) (k : Nat) : Nat → Ws
 | 0 => []
 | n + 1 => wsA a A N k n ++ ([(adr a (n * 2 + 0), .int .i64 ((kA N k n + 0 : Nat) : Int))] ++ wsI (A n) (kA N k n + 1) (N n))
structure LayA (w : World) (a : Option Addr) (A : Nat → Option Addr) (N cp : Nat → Nat) (n : Nat) : Prop where
 room : Room w a (n * 2)
 hd : ∀ i, i < n → w.cell? (adr a (i * 2 + 1)) = some (.slice (A i) (N i) (cp i))
 inner : ∀ i, i < n → Room w (A i) (N i)
 far : ∀ i j q, i < n → j < (N i) → q < n * 2 → adr (A i) j ≠ adr a q
 apart : ∀ i i' j j', i < n → i' < n → i ≠ i' → j < (N i) → j' < (N i') → adr (A i) j ≠ adr (A i') j'
theorem wsA_mem : ∀ (a : Option Addr) (A : Nat → Option Addr) (N : Nat → Nat) (k n : Nat) (p : Addr × Value), p ∈ wsA a A N k n → (∃ i t, i < n ∧ t < 1 ∧ p.1 = adr a (i * 2 + t)) ∨ (∃ i j, i < n ∧ j < (N i) ∧ p.1 = adr (A i) j)
 | a, A, N, k, 0, p, h => by simp [wsA] at h
 | a, A, N, k, n + 1, p, h => by
  simp only [wsA, List.mem_append, List.mem_cons, List.not_mem_nil, or_false] at h
  rcases h with h | (rfl) | h
  ·rcases wsA_mem a A N k n p h with ⟨i, t, h1, h2, h3⟩ | ⟨i, j, h1, h2, h3⟩
   ·exact .inl ⟨i, t, by omega, h2, h3⟩
   exact .inr ⟨i, j, by omega, h2, h3⟩
  ·exact .inl ⟨n, 0, by omega, by omega, rfl⟩
  obtain ⟨j, hj, e⟩ := wsI_mem _ _ _ p h
  exact .inr ⟨n, j, by omega, hj, e⟩
theorem wsA_sub : ∀ (a : Option Addr) (A : Nat → Option Addr) (N : Nat → Nat) (k n j : Nat), j < n → (∀ p ∈ ([(adr a (j * 2 + 0), .int .i64 ((kA N k j + 0 : Nat) : Int))] : Ws) ++ wsI (A j) (kA N k j + 1) (N j), p ∈ wsA a A N k n)
 | a, A, N, k, 0, j, h => absurd h (by omega)
 | a, A, N, k, n + 1, j, h => fun p hp => by
  simp only [wsA]
  by_cases e : j = n
  ·subst e
   exact List.mem_append.2 (.inr hp)
  exact List.mem_append.2 (.inl (wsA_sub a A N k n j (by omega) p hp))
theorem markA_any (a : Option Addr) (A : Nat → Option Addr) (N cp : Nat → Nat) (n cap k : Nat) (w : World) (hk : kA N k n ≤ 1152921504606846900) (hn : n ≤ 1152921504606846976) (h : LayA w a A N cp n) :
  Calls Tryz.prog 51 #[.slice a n cap, .int .i64 k] w fun e w' => e = .returned (.int .i64 ((kA N k n : Nat) : Int)) ∧ Wrote w w' (wsA a A N k n) := by
 have H := hid h
 have HKN := hid hk
 clear h hk
 go_enter Tryz.func51, Tryz.ntmps51
 go_wp2
 go_loopw [1, 5] (fun kv i wr => ∃ (j : Nat) (K : Int), j ≤ n ∧ i = .int .i64 j ∧ kv = .int .i64 K ∧ K = ((kA N k j : Nat) : Int) ∧ Wrote w wr (wsA a A N k j)) (fun _ i _ => n - (intOf i).toNat)
 case atStart => exact ⟨0, k, Nat.zero_le _, rfl, rfl, rfl, Wrote.refl _⟩
 obtain ⟨j, K, hj, rfl, rfl, hK0, ho0⟩ := hrel
 have HO := hid ho0
 have HK := hid hK0
 have hle := kA_le N k j n hj
 have K1 : (0 : Int) ≤ K := by omega
 have K2 : K ≤ 1152921504606846900 := by have := HKN.out; omega
 clear ho0 hK0 hle
 by_cases hlt : j < n
 ·have e1 : (0 : Int) ≤ (j : Int) := by omega
  have e2 : (j : Int) < (n : Int) := by omega
  have KS := hid (show kA N k j + 1 + N j ≤ 1152921504606846900 from Nat.le_trans (kA_le N k (j + 1) n hlt) HKN.out)
  obtain ⟨b, off, rfl, hb, _⟩ := H.out.room (j * 2) (by omega)
  have HB := hid hb
  have IN := hid (show ∀ p ∈ wsA (some ⟨b, off, none⟩) A N k j, p.1.block < w.heap.size from fun p hp => by
   rcases wsA_mem _ _ _ _ _ p hp with ⟨i, t, h1, h2, h3⟩ | ⟨i, q, h1, h2, h3⟩
   ·rw [h3]; exact hb
   obtain ⟨b', off', e9, hb', _⟩ := H.out.inner i (by omega) q h2
   rw [h3, e9]; exact hb')
  have NO := hid (show ∀ t, t < 2 → ∀ p ∈ wsA (some ⟨b, off, none⟩) A N k j, p.1 ≠ ⟨b, off + (j * 2 + t), none⟩ from fun t ht p hp => by
   rcases wsA_mem _ _ _ _ _ p hp with ⟨i, t', h1, h2, h3⟩ | ⟨i, q, h1, h2, h3⟩
   ·rw [h3]; exact adr_ne (by omega)
   rw [h3]; exact H.out.far i q (j * 2 + t) (by omega) h2 (by omega))
  obtain ⟨_, _, ee0, _, s0, f0⟩ := H.out.room (j * 2 + 0) (by omega)
  simp only [Option.some.injEq, Addr.mk.injEq, and_true] at ee0
  obtain ⟨rfl, rfl⟩ := ee0
  have hh := H.out.hd j hlt
  have d1 := (HO.out.keep ⟨b, off + j * 2 + 1, none⟩ hb (NO.out 1 (by omega))).trans hh
  have W0 := HO
  have Q0 := hid (show ∀ t, 0 ≤ t → t < 2 → ∀ p ∈ wsA (some ⟨b, off, none⟩) A N k j, p.1 ≠ ⟨b, off + (j * 2 + t), none⟩ from fun t _ ht => NO.out t ht)
  have I0 := IN
  obtain ⟨x0, hx0⟩ := some_of_isSome s0
  have d0 := (HO.out.keep ⟨b, off + j * 2, none⟩ hb (NO.out 0 (by omega))).trans hx0
  have g0 := (HO.out.free ⟨b, off + j * 2, none⟩ hb).trans f0
  have W1 := hid (W0.out.set b (off + j * 2) (.int .i64 (K)) (Q0.out 0 (by omega) (by omega)) (by rw [W0.out.keep ⟨b, off + j * 2, none⟩ hb (Q0.out 0 (by omega) (by omega))]; exact s0))
  have Q1 := hid (show ∀ t, 1 ≤ t → t < 2 → ∀ p ∈ (wsA (some ⟨b, off, none⟩) A N k j ++ [((⟨b, off + j * 2, none⟩ : Addr), Value.int .i64 (K))]), p.1 ≠ ⟨b, off + (j * 2 + t), none⟩ from fun t h1 h2 => all_snoc (Q0.out t (by omega) h2) (fun e => by simp only [Addr.mk.injEq, true_and, and_true] at e; omega))
  have I1 := hid (all_snoc (x := ((⟨b, off + j * 2, none⟩ : Addr), Value.int .i64 (K))) I0.out HB.out)
  clear hh
  have ZI := hid ((H.out.inner j hlt).wrote W1.out)
  have HD := hid (show ∀ p ∈ (wsA (some ⟨b, off, none⟩) A N k j ++ [((⟨b, off + j * 2, none⟩ : Addr), Value.int .i64 (K))]), ∀ q ∈ wsI (A j) (kA N k j + 1) (N j), q.1 ≠ p.1 from fun p hp q hq => by
   obtain ⟨y, hy, e9⟩ := wsI_mem _ _ _ q hq
   rw [e9]
   simp only [List.mem_append, List.mem_singleton] at hp
   rcases hp with hp | rfl
   ·rcases wsA_mem _ _ _ _ _ p hp with ⟨i, t, h1, h2, h3⟩ | ⟨i, v, h1, h2, h3⟩
    ·rw [h3]; exact H.out.far j y (i * 2 + t) hlt hy (by omega)
    rw [h3]; exact H.out.apart j i y v hlt (by omega) (by omega) hy h2
   exact H.out.far j y (j * 2 + 0) hlt hy (by omega))
  go_wp2_with fail
  refine (markI_int (A j) (N j) (cp j) (kA N k j + 1) (K + 1) _ (by rw [HK.out]; omega) (by have := KS.out; omega) ZI.out).mono ?_
  rintro e y ⟨rfl, hy⟩
  have WF := hid (W1.out.trans hy I1.out HD.out)
  clear hy
  go_wp2
  go_roundw
  case rel =>
   refine ⟨j + 1, _, by omega, by go_num, rfl, by rw [kA_step]; omega, ?_⟩
   have h9 := WF.out
   simp only [HK.out, List.append_assoc, List.cons_append, List.nil_append] at h9
   exact h9
  case measure => simp [intOf]; omega
 have hjn : j = n := by omega
 subst hjn
 go_wp2
 go_ret
 exact ⟨by rw [HK.out]; rfl, HO.out⟩
theorem heldA_any (a : Option Addr) (A : Nat → Option Addr) (N cp : Nat → Nat) (n cap k : Nat) (w : World) (hk : kA N k n ≤ 1152921504606846900) (hn : n ≤ 1152921504606846976) (h : LayA w a A N cp n) (hv : ∀ p ∈ wsA a A N k n, w.cell? p.1 = some p.2) :
  Calls Tryz.prog 56 #[.slice a n cap, .int .i64 k] w fun e w' => e = .returned (.int .i64 ((kA N k n : Nat) : Int)) ∧ Below w.heap.size w w' := by
 have H := hid h
 have HV := hid hv
 have HKN := hid hk
 clear h hk hv
 go_enter Tryz.func56, Tryz.ntmps56
 go_wp2
 go_loopw [1, 5] (fun kv i wr => ∃ (j : Nat) (K : Int), j ≤ n ∧ i = .int .i64 j ∧ kv = .int .i64 K ∧ K = ((kA N k j : Nat) : Int) ∧ Below w.heap.size w wr) (fun _ i _ => n - (intOf i).toNat)
 case atStart => exact ⟨0, k, Nat.zero_le _, rfl, rfl, rfl, Below.refl _ _⟩
 obtain ⟨j, K, hj, rfl, rfl, hK0, hb0⟩ := hrel
 have HK := hid hK0
 have HBe := hid hb0
 have hle := kA_le N k j n hj
 have K1 : (0 : Int) ≤ K := by omega
 have K2 : K ≤ 1152921504606846900 := by have := HKN.out; omega
 clear hK0 hle
 by_cases hlt : j < n
 ·have e1 : (0 : Int) ≤ (j : Int) := by omega
  have e2 : (j : Int) < (n : Int) := by omega
  have KS := hid (show kA N k j + 1 + N j ≤ 1152921504606846900 from Nat.le_trans (kA_le N k (j + 1) n hlt) HKN.out)
  obtain ⟨b, off, rfl, hb, _⟩ := H.out.room (j * 2) (by omega)
  have HB := hid hb
  have SUB := hid (wsA_sub (some ⟨b, off, none⟩) A N k n j hlt)
  have dh := (hb0.cell (p := ⟨b, off + j * 2 + 1, none⟩) hb).trans (H.out.hd j hlt)
  have m0 := HV.out _ (SUB.out (adr (some ⟨b, off, none⟩) (j * 2 + 0), .int .i64 ((kA N k j + 0 : Nat) : Int)) (by simp))
  have d0 : wr.cell? ⟨b, off + j * 2, none⟩ = some (.int .i64 (K)) := by
   rw [show (K : Int) = ((kA N k j + 0 : Nat) : Int) by rw [HK.out]; omega]
   exact (hb0.cell (p := ⟨b, off + j * 2, none⟩) hb).trans m0
  clear m0
  have ZV := hid (show ∀ p ∈ wsI (A j) (kA N k j + 1) (N j), w.cell? p.1 = some p.2 ∧ p.1.block < w.heap.size from fun p hp => ⟨HV.out p (SUB.out p (List.mem_append.2 (.inr hp))), by
   obtain ⟨q, hq, e9⟩ := wsI_mem _ _ _ p hp
   obtain ⟨b', off', e8, hb', _⟩ := H.out.inner j hlt q hq
   rw [e9, e8]; exact hb'⟩)
  have LT := hid (show b < wr.heap.size from Nat.lt_of_lt_of_le hb hb0.size)
  have HF := HBe
  clear hb0
  go_wp2_with fail
  refine (heldI_int (A j) (N j) (cp j) (kA N k j + 1) (K + 1) _ (by rw [HK.out]; omega) (by have := KS.out; omega) ((H.out.inner j hlt).ext HF.out) (fun p hp => (HF.out.cell (p := p.1) (ZV.out p hp).2).trans (ZV.out p hp).1)).mono ?_
  rintro e y ⟨rfl, hy⟩
  have HG := hid (ext_trans HF.out hy)
  have e9 : ¬ (((kA N k j + 1 + N j : Nat) : Int)) < 0 := by omega
  clear hy
  go_wp2
  go_roundw
  case rel => exact ⟨j + 1, _, by omega, by go_num, rfl, by rw [kA_step]; omega, HG.out⟩
  case measure => simp [intOf]; omega
 have hjn : j = n := by omega
 subst hjn
 go_wp2
 go_ret
 exact ⟨by rw [HK.out]; rfl, hb0⟩
def kM (N : Nat → Nat) (k : Nat) : Nat → Nat
 | 0 => k
 | n + 1 => kM N k n + 7 + 2 * N n
theorem kM_le (N : Nat → Nat) (k : Nat) : ∀ (i j : Nat), i ≤ j → kM N k i ≤ kM N k j
 | i, 0, h => by rw [show i = 0 by omega]; exact Nat.le_refl _
 | i, j + 1, h => by
  by_cases e : i = j + 1
  ·rw [e]; exact Nat.le_refl _
  have := kM_le N k i j (by omega)
  simp only [kM]
  omega
theorem kM_step (N : Nat → Nat) (k j : Nat) : kM N k (j + 1) = kM N k j + 7 + 2 * N j := rfl
def wsM (a : Option Addr) (A : Nat → Option Addr) (N : Nat → Nat) (k : Nat) : Nat → Ws
 | 0 => []
 | n + 1 => wsM a A N k n ++ ([(adr a (n * 8 + 0), .int .i64 ((kM N k n + 0 : Nat) : Int)), (adr a (n * 8 + 1), .int .i64 ((kM N k n + 1 : Nat) : Int)), (adr a (n * 8 + 2), .int .i64 ((kM N k n + 2 : Nat) : Int)), (adr a (n * 8 + 3), .int .i64 ((kM N k n + 3 : Nat) : Int)), (adr a (n * 8 + 4), .int .i64 ((kM N k n + 4 : Nat) : Int)), (adr a (n * 8 + 5), .int .i64 ((kM N k n + 5 : Nat) : Int)), (adr a (n * 8 + 6), .string (markT (kM N k n + 6)))] ++ wsS (A n) (kM N k n + 7) (N n))
structure LayM (w : World) (a : Option Addr) (A : Nat → Option Addr) (N cp : Nat → Nat) (n : Nat) : Prop where
 room : Room w a (n * 8)
 hd : ∀ i, i < n → w.cell? (adr a (i * 8 + 7)) = some (.slice (A i) (N i) (cp i))
 inner : ∀ i, i < n → Room w (A i) (N i * 2)
 far : ∀ i j q, i < n → j < (N i * 2) → q < n * 8 → adr (A i) j ≠ adr a q
 apart : ∀ i i' j j', i < n → i' < n → i ≠ i' → j < (N i * 2) → j' < (N i' * 2) → adr (A i) j ≠ adr (A i') j'
theorem wsM_mem : ∀ (a : Option Addr) (A : Nat → Option Addr) (N : Nat → Nat) (k n : Nat) (p : Addr × Value), p ∈ wsM a A N k n → (∃ i t, i < n ∧ t < 7 ∧ p.1 = adr a (i * 8 + t)) ∨ (∃ i j, i < n ∧ j < (N i * 2) ∧ p.1 = adr (A i) j)
 | a, A, N, k, 0, p, h => by simp [wsM] at h
 | a, A, N, k, n + 1, p, h => by
  simp only [wsM, List.mem_append, List.mem_cons, List.not_mem_nil, or_false] at h
  rcases h with h | (rfl | rfl | rfl | rfl | rfl | rfl | rfl) | h
  ·rcases wsM_mem a A N k n p h with ⟨i, t, h1, h2, h3⟩ | ⟨i, j, h1, h2, h3⟩
   ·exact .inl ⟨i, t, by omega, h2, h3⟩
   exact .inr ⟨i, j, by omega, h2, h3⟩
  ·exact .inl ⟨n, 0, by omega, by omega, rfl⟩
  ·exact .inl ⟨n, 1, by omega, by omega, rfl⟩
  ·exact .inl ⟨n, 2, by omega, by omega, rfl⟩
  ·exact .inl ⟨n, 3, by omega, by omega, rfl⟩
  ·exact .inl ⟨n, 4, by omega, by omega, rfl⟩
  ·exact .inl ⟨n, 5, by omega, by omega, rfl⟩
  ·exact .inl ⟨n, 6, by omega, by omega, rfl⟩
  obtain ⟨j, hj, e⟩ := wsS_mem _ _ _ p h
  exact .inr ⟨n, j, by omega, hj, e⟩
theorem wsM_sub : ∀ (a : Option Addr) (A : Nat → Option Addr) (N : Nat → Nat) (k n j : Nat), j < n → (∀ p ∈ ([(adr a (j * 8 + 0), .int .i64 ((kM N k j + 0 : Nat) : Int)), (adr a (j * 8 + 1), .int .i64 ((kM N k j + 1 : Nat) : Int)), (adr a (j * 8 + 2), .int .i64 ((kM N k j + 2 : Nat) : Int)), (adr a (j * 8 + 3), .int .i64 ((kM N k j + 3 : Nat) : Int)), (adr a (j * 8 + 4), .int .i64 ((kM N k j + 4 : Nat) : Int)), (adr a (j * 8 + 5), .int .i64 ((kM N k j + 5 : Nat) : Int)), (adr a (j * 8 + 6), .string (markT (kM N k j + 6)))] : Ws) ++ wsS (A j) (kM N k j + 7) (N j), p ∈ wsM a A N k n)
 | a, A, N, k, 0, j, h => absurd h (by omega)
 | a, A, N, k, n + 1, j, h => fun p hp => by
  simp only [wsM]
  by_cases e : j = n
  ·subst e
   exact List.mem_append.2 (.inr hp)
  exact List.mem_append.2 (.inl (wsM_sub a A N k n j (by omega) p hp))
theorem markM_any (a : Option Addr) (A : Nat → Option Addr) (N cp : Nat → Nat) (n cap k : Nat) (w : World) (hk : kM N k n ≤ 1152921504606846900) (hn : n ≤ 1152921504606846976) (h : LayM w a A N cp n) :
  Calls Tryz.prog 19 #[.slice a n cap, .int .i64 k] w fun e w' => e = .returned (.int .i64 ((kM N k n : Nat) : Int)) ∧ Wrote w w' (wsM a A N k n) := by
 have H := hid h
 have HKN := hid hk
 clear h hk
 go_enter Tryz.func19, Tryz.ntmps19
 go_wp2
 go_loopw [1, 5] (fun kv i wr => ∃ (j : Nat) (K : Int), j ≤ n ∧ i = .int .i64 j ∧ kv = .int .i64 K ∧ K = ((kM N k j : Nat) : Int) ∧ Wrote w wr (wsM a A N k j)) (fun _ i _ => n - (intOf i).toNat)
 case atStart => exact ⟨0, k, Nat.zero_le _, rfl, rfl, rfl, Wrote.refl _⟩
 obtain ⟨j, K, hj, rfl, rfl, hK0, ho0⟩ := hrel
 have HO := hid ho0
 have HK := hid hK0
 have hle := kM_le N k j n hj
 have K1 : (0 : Int) ≤ K := by omega
 have K2 : K ≤ 1152921504606846900 := by have := HKN.out; omega
 clear ho0 hK0 hle
 by_cases hlt : j < n
 ·have e1 : (0 : Int) ≤ (j : Int) := by omega
  have e2 : (j : Int) < (n : Int) := by omega
  have KS := hid (show kM N k j + 7 + 2 * N j ≤ 1152921504606846900 from Nat.le_trans (kM_le N k (j + 1) n hlt) HKN.out)
  obtain ⟨b, off, rfl, hb, _⟩ := H.out.room (j * 8) (by omega)
  have HB := hid hb
  have IN := hid (show ∀ p ∈ wsM (some ⟨b, off, none⟩) A N k j, p.1.block < w.heap.size from fun p hp => by
   rcases wsM_mem _ _ _ _ _ p hp with ⟨i, t, h1, h2, h3⟩ | ⟨i, q, h1, h2, h3⟩
   ·rw [h3]; exact hb
   obtain ⟨b', off', e9, hb', _⟩ := H.out.inner i (by omega) q h2
   rw [h3, e9]; exact hb')
  have NO := hid (show ∀ t, t < 8 → ∀ p ∈ wsM (some ⟨b, off, none⟩) A N k j, p.1 ≠ ⟨b, off + (j * 8 + t), none⟩ from fun t ht p hp => by
   rcases wsM_mem _ _ _ _ _ p hp with ⟨i, t', h1, h2, h3⟩ | ⟨i, q, h1, h2, h3⟩
   ·rw [h3]; exact adr_ne (by omega)
   rw [h3]; exact H.out.far i q (j * 8 + t) (by omega) h2 (by omega))
  obtain ⟨_, _, ee0, _, s0, f0⟩ := H.out.room (j * 8 + 0) (by omega)
  simp only [Option.some.injEq, Addr.mk.injEq, and_true] at ee0
  obtain ⟨rfl, rfl⟩ := ee0
  obtain ⟨_, _, ee1, _, s1, f1⟩ := H.out.room (j * 8 + 1) (by omega)
  simp only [Option.some.injEq, Addr.mk.injEq, and_true] at ee1
  obtain ⟨rfl, rfl⟩ := ee1
  obtain ⟨_, _, ee2, _, s2, f2⟩ := H.out.room (j * 8 + 2) (by omega)
  simp only [Option.some.injEq, Addr.mk.injEq, and_true] at ee2
  obtain ⟨rfl, rfl⟩ := ee2
  obtain ⟨_, _, ee3, _, s3, f3⟩ := H.out.room (j * 8 + 3) (by omega)
  simp only [Option.some.injEq, Addr.mk.injEq, and_true] at ee3
  obtain ⟨rfl, rfl⟩ := ee3
  obtain ⟨_, _, ee4, _, s4, f4⟩ := H.out.room (j * 8 + 4) (by omega)
  simp only [Option.some.injEq, Addr.mk.injEq, and_true] at ee4
  obtain ⟨rfl, rfl⟩ := ee4
  obtain ⟨_, _, ee5, _, s5, f5⟩ := H.out.room (j * 8 + 5) (by omega)
  simp only [Option.some.injEq, Addr.mk.injEq, and_true] at ee5
  obtain ⟨rfl, rfl⟩ := ee5
  obtain ⟨_, _, ee6, _, s6, f6⟩ := H.out.room (j * 8 + 6) (by omega)
  simp only [Option.some.injEq, Addr.mk.injEq, and_true] at ee6
  obtain ⟨rfl, rfl⟩ := ee6
  have hh := H.out.hd j hlt
  have d7 := (HO.out.keep ⟨b, off + j * 8 + 7, none⟩ hb (NO.out 7 (by omega))).trans hh
  have W0 := HO
  have Q0 := hid (show ∀ t, 0 ≤ t → t < 8 → ∀ p ∈ wsM (some ⟨b, off, none⟩) A N k j, p.1 ≠ ⟨b, off + (j * 8 + t), none⟩ from fun t _ ht => NO.out t ht)
  have I0 := IN
  obtain ⟨x0, hx0⟩ := some_of_isSome s0
  have d0 := (HO.out.keep ⟨b, off + j * 8, none⟩ hb (NO.out 0 (by omega))).trans hx0
  have g0 := (HO.out.free ⟨b, off + j * 8, none⟩ hb).trans f0
  have W1 := hid (W0.out.set b (off + j * 8) (.int .i64 (K)) (Q0.out 0 (by omega) (by omega)) (by rw [W0.out.keep ⟨b, off + j * 8, none⟩ hb (Q0.out 0 (by omega) (by omega))]; exact s0))
  have Q1 := hid (show ∀ t, 1 ≤ t → t < 8 → ∀ p ∈ (wsM (some ⟨b, off, none⟩) A N k j ++ [((⟨b, off + j * 8, none⟩ : Addr), Value.int .i64 (K))]), p.1 ≠ ⟨b, off + (j * 8 + t), none⟩ from fun t h1 h2 => all_snoc (Q0.out t (by omega) h2) (fun e => by simp only [Addr.mk.injEq, true_and, and_true] at e; omega))
  have I1 := hid (all_snoc (x := ((⟨b, off + j * 8, none⟩ : Addr), Value.int .i64 (K))) I0.out HB.out)
  obtain ⟨x1, hx1⟩ := some_of_isSome s1
  have d1 := (HO.out.keep ⟨b, off + j * 8 + 1, none⟩ hb (NO.out 1 (by omega))).trans hx1
  have g1 := (HO.out.free ⟨b, off + j * 8 + 1, none⟩ hb).trans f1
  have W2 := hid (W1.out.set b (off + j * 8 + 1) (.int .i64 (K + 1)) (Q1.out 1 (by omega) (by omega)) (by rw [W1.out.keep ⟨b, off + j * 8 + 1, none⟩ hb (Q1.out 1 (by omega) (by omega))]; exact s1))
  have Q2 := hid (show ∀ t, 2 ≤ t → t < 8 → ∀ p ∈ ((wsM (some ⟨b, off, none⟩) A N k j ++ [((⟨b, off + j * 8, none⟩ : Addr), Value.int .i64 (K))]) ++ [((⟨b, off + j * 8 + 1, none⟩ : Addr), Value.int .i64 (K + 1))]), p.1 ≠ ⟨b, off + (j * 8 + t), none⟩ from fun t h1 h2 => all_snoc (Q1.out t (by omega) h2) (fun e => by simp only [Addr.mk.injEq, true_and, and_true] at e; omega))
  have I2 := hid (all_snoc (x := ((⟨b, off + j * 8 + 1, none⟩ : Addr), Value.int .i64 (K + 1))) I1.out HB.out)
  obtain ⟨x2, hx2⟩ := some_of_isSome s2
  have d2 := (HO.out.keep ⟨b, off + j * 8 + 2, none⟩ hb (NO.out 2 (by omega))).trans hx2
  have g2 := (HO.out.free ⟨b, off + j * 8 + 2, none⟩ hb).trans f2
  have W3 := hid (W2.out.set b (off + j * 8 + 2) (.int .i64 (K + 1 + 1)) (Q2.out 2 (by omega) (by omega)) (by rw [W2.out.keep ⟨b, off + j * 8 + 2, none⟩ hb (Q2.out 2 (by omega) (by omega))]; exact s2))
  have Q3 := hid (show ∀ t, 3 ≤ t → t < 8 → ∀ p ∈ (((wsM (some ⟨b, off, none⟩) A N k j ++ [((⟨b, off + j * 8, none⟩ : Addr), Value.int .i64 (K))]) ++ [((⟨b, off + j * 8 + 1, none⟩ : Addr), Value.int .i64 (K + 1))]) ++ [((⟨b, off + j * 8 + 2, none⟩ : Addr), Value.int .i64 (K + 1 + 1))]), p.1 ≠ ⟨b, off + (j * 8 + t), none⟩ from fun t h1 h2 => all_snoc (Q2.out t (by omega) h2) (fun e => by simp only [Addr.mk.injEq, true_and, and_true] at e; omega))
  have I3 := hid (all_snoc (x := ((⟨b, off + j * 8 + 2, none⟩ : Addr), Value.int .i64 (K + 1 + 1))) I2.out HB.out)
  obtain ⟨x3, hx3⟩ := some_of_isSome s3
  have d3 := (HO.out.keep ⟨b, off + j * 8 + 3, none⟩ hb (NO.out 3 (by omega))).trans hx3
  have g3 := (HO.out.free ⟨b, off + j * 8 + 3, none⟩ hb).trans f3
  have W4 := hid (W3.out.set b (off + j * 8 + 3) (.int .i64 (K + 1 + 1 + 1)) (Q3.out 3 (by omega) (by omega)) (by rw [W3.out.keep ⟨b, off + j * 8 + 3, none⟩ hb (Q3.out 3 (by omega) (by omega))]; exact s3))
  have Q4 := hid (show ∀ t, 4 ≤ t → t < 8 → ∀ p ∈ ((((wsM (some ⟨b, off, none⟩) A N k j ++ [((⟨b, off + j * 8, none⟩ : Addr), Value.int .i64 (K))]) ++ [((⟨b, off + j * 8 + 1, none⟩ : Addr), Value.int .i64 (K + 1))]) ++ [((⟨b, off + j * 8 + 2, none⟩ : Addr), Value.int .i64 (K + 1 + 1))]) ++ [((⟨b, off + j * 8 + 3, none⟩ : Addr), Value.int .i64 (K + 1 + 1 + 1))]), p.1 ≠ ⟨b, off + (j * 8 + t), none⟩ from fun t h1 h2 => all_snoc (Q3.out t (by omega) h2) (fun e => by simp only [Addr.mk.injEq, true_and, and_true] at e; omega))
  have I4 := hid (all_snoc (x := ((⟨b, off + j * 8 + 3, none⟩ : Addr), Value.int .i64 (K + 1 + 1 + 1))) I3.out HB.out)
  obtain ⟨x4, hx4⟩ := some_of_isSome s4
  have d4 := (HO.out.keep ⟨b, off + j * 8 + 4, none⟩ hb (NO.out 4 (by omega))).trans hx4
  have g4 := (HO.out.free ⟨b, off + j * 8 + 4, none⟩ hb).trans f4
  have W5 := hid (W4.out.set b (off + j * 8 + 4) (.int .i64 (K + 1 + 1 + 1 + 1)) (Q4.out 4 (by omega) (by omega)) (by rw [W4.out.keep ⟨b, off + j * 8 + 4, none⟩ hb (Q4.out 4 (by omega) (by omega))]; exact s4))
  have Q5 := hid (show ∀ t, 5 ≤ t → t < 8 → ∀ p ∈ (((((wsM (some ⟨b, off, none⟩) A N k j ++ [((⟨b, off + j * 8, none⟩ : Addr), Value.int .i64 (K))]) ++ [((⟨b, off + j * 8 + 1, none⟩ : Addr), Value.int .i64 (K + 1))]) ++ [((⟨b, off + j * 8 + 2, none⟩ : Addr), Value.int .i64 (K + 1 + 1))]) ++ [((⟨b, off + j * 8 + 3, none⟩ : Addr), Value.int .i64 (K + 1 + 1 + 1))]) ++ [((⟨b, off + j * 8 + 4, none⟩ : Addr), Value.int .i64 (K + 1 + 1 + 1 + 1))]), p.1 ≠ ⟨b, off + (j * 8 + t), none⟩ from fun t h1 h2 => all_snoc (Q4.out t (by omega) h2) (fun e => by simp only [Addr.mk.injEq, true_and, and_true] at e; omega))
  have I5 := hid (all_snoc (x := ((⟨b, off + j * 8 + 4, none⟩ : Addr), Value.int .i64 (K + 1 + 1 + 1 + 1))) I4.out HB.out)
  obtain ⟨x5, hx5⟩ := some_of_isSome s5
  have d5 := (HO.out.keep ⟨b, off + j * 8 + 5, none⟩ hb (NO.out 5 (by omega))).trans hx5
  have g5 := (HO.out.free ⟨b, off + j * 8 + 5, none⟩ hb).trans f5
  have W6 := hid (W5.out.set b (off + j * 8 + 5) (.int .i64 (K + 1 + 1 + 1 + 1 + 1)) (Q5.out 5 (by omega) (by omega)) (by rw [W5.out.keep ⟨b, off + j * 8 + 5, none⟩ hb (Q5.out 5 (by omega) (by omega))]; exact s5))
  have Q6 := hid (show ∀ t, 6 ≤ t → t < 8 → ∀ p ∈ ((((((wsM (some ⟨b, off, none⟩) A N k j ++ [((⟨b, off + j * 8, none⟩ : Addr), Value.int .i64 (K))]) ++ [((⟨b, off + j * 8 + 1, none⟩ : Addr), Value.int .i64 (K + 1))]) ++ [((⟨b, off + j * 8 + 2, none⟩ : Addr), Value.int .i64 (K + 1 + 1))]) ++ [((⟨b, off + j * 8 + 3, none⟩ : Addr), Value.int .i64 (K + 1 + 1 + 1))]) ++ [((⟨b, off + j * 8 + 4, none⟩ : Addr), Value.int .i64 (K + 1 + 1 + 1 + 1))]) ++ [((⟨b, off + j * 8 + 5, none⟩ : Addr), Value.int .i64 (K + 1 + 1 + 1 + 1 + 1))]), p.1 ≠ ⟨b, off + (j * 8 + t), none⟩ from fun t h1 h2 => all_snoc (Q5.out t (by omega) h2) (fun e => by simp only [Addr.mk.injEq, true_and, and_true] at e; omega))
  have I6 := hid (all_snoc (x := ((⟨b, off + j * 8 + 5, none⟩ : Addr), Value.int .i64 (K + 1 + 1 + 1 + 1 + 1))) I5.out HB.out)
  have ST := hid s6
  have FT := hid f6
  have HH := hid hh
  clear hh
  go_wp2_with fail
  refine (markText_int (K + 1 + 1 + 1 + 1 + 1 + 1) (kM N k j + 6) _ (by rw [HK.out]; omega) (by have := KS.out; omega)).mono ?_
  rintro e z ⟨rfl, hz⟩
  have V := hid (W6.out.ext I6.out hz)
  obtain ⟨xt, hxt⟩ := some_of_isSome ST.out
  have dt := (V.out.keep ⟨b, off + j * 8 + 6, none⟩ HB.out (Q6.out 6 (by omega) (by omega))).trans hxt
  have gt := (V.out.free ⟨b, off + j * 8 + 6, none⟩ HB.out).trans FT.out
  have dh := (V.out.keep ⟨b, off + j * 8 + 7, none⟩ HB.out (Q6.out 7 (by omega) (by omega))).trans HH.out
  have W7 := hid (V.out.set b (off + j * 8 + 6) (.string (markT (kM N k j + 6))) (Q6.out 6 (by omega) (by omega)) (by rw [dt]; rfl))
  have I7 := hid (all_snoc (x := ((⟨b, off + j * 8 + 6, none⟩ : Addr), Value.string (markT (kM N k j + 6)))) I6.out HB.out)
  clear d0 g0 d1 g1 d2 g2 d3 g3 d4 g4 d5 g5 d7 hz hxt
  have ZI := hid ((H.out.inner j hlt).wrote W7.out)
  have HD := hid (show ∀ p ∈ (((((((wsM (some ⟨b, off, none⟩) A N k j ++ [((⟨b, off + j * 8, none⟩ : Addr), Value.int .i64 (K))]) ++ [((⟨b, off + j * 8 + 1, none⟩ : Addr), Value.int .i64 (K + 1))]) ++ [((⟨b, off + j * 8 + 2, none⟩ : Addr), Value.int .i64 (K + 1 + 1))]) ++ [((⟨b, off + j * 8 + 3, none⟩ : Addr), Value.int .i64 (K + 1 + 1 + 1))]) ++ [((⟨b, off + j * 8 + 4, none⟩ : Addr), Value.int .i64 (K + 1 + 1 + 1 + 1))]) ++ [((⟨b, off + j * 8 + 5, none⟩ : Addr), Value.int .i64 (K + 1 + 1 + 1 + 1 + 1))]) ++ [((⟨b, off + j * 8 + 6, none⟩ : Addr), Value.string (markT (kM N k j + 6)))]), ∀ q ∈ wsS (A j) (kM N k j + 7) (N j), q.1 ≠ p.1 from fun p hp q hq => by
   obtain ⟨y, hy, e9⟩ := wsS_mem _ _ _ q hq
   rw [e9]
   simp only [List.mem_append, List.mem_singleton] at hp
   rcases hp with ((((((hp | rfl) | rfl) | rfl) | rfl) | rfl) | rfl) | rfl
   ·rcases wsM_mem _ _ _ _ _ p hp with ⟨i, t, h1, h2, h3⟩ | ⟨i, v, h1, h2, h3⟩
    ·rw [h3]; exact H.out.far j y (i * 8 + t) hlt hy (by omega)
    rw [h3]; exact H.out.apart j i y v hlt (by omega) (by omega) hy h2
   ·exact H.out.far j y (j * 8 + 0) hlt hy (by omega)
   ·exact H.out.far j y (j * 8 + 1) hlt hy (by omega)
   ·exact H.out.far j y (j * 8 + 2) hlt hy (by omega)
   ·exact H.out.far j y (j * 8 + 3) hlt hy (by omega)
   ·exact H.out.far j y (j * 8 + 4) hlt hy (by omega)
   ·exact H.out.far j y (j * 8 + 5) hlt hy (by omega)
   exact H.out.far j y (j * 8 + 6) hlt hy (by omega))
  go_wp2_with fail
  refine (markS_int (A j) (N j) (cp j) (kM N k j + 7) (K + 1 + 1 + 1 + 1 + 1 + 1 + 1) _ (by rw [HK.out]; omega) (by have := KS.out; omega) ZI.out).mono ?_
  rintro e y ⟨rfl, hy⟩
  have WF := hid (W7.out.trans hy I7.out HD.out)
  clear hy
  go_wp2
  go_roundw
  case rel =>
   refine ⟨j + 1, _, by omega, by go_num, rfl, by rw [kM_step]; omega, ?_⟩
   have h9 := WF.out
   simp only [HK.out, List.append_assoc, List.cons_append, List.nil_append] at h9
   exact h9
  case measure => simp [intOf]; omega
 have hjn : j = n := by omega
 subst hjn
 go_wp2
 go_ret
 exact ⟨by rw [HK.out]; rfl, HO.out⟩
theorem heldM_any (a : Option Addr) (A : Nat → Option Addr) (N cp : Nat → Nat) (n cap k : Nat) (w : World) (hk : kM N k n ≤ 1152921504606846900) (hn : n ≤ 1152921504606846976) (h : LayM w a A N cp n) (hv : ∀ p ∈ wsM a A N k n, w.cell? p.1 = some p.2) :
  Calls Tryz.prog 20 #[.slice a n cap, .int .i64 k] w fun e w' => e = .returned (.int .i64 ((kM N k n : Nat) : Int)) ∧ Below w.heap.size w w' := by
 have H := hid h
 have HV := hid hv
 have HKN := hid hk
 clear h hk hv
 go_enter Tryz.func20, Tryz.ntmps20
 go_wp2
 go_loopw [1, 5] (fun kv i wr => ∃ (j : Nat) (K : Int), j ≤ n ∧ i = .int .i64 j ∧ kv = .int .i64 K ∧ K = ((kM N k j : Nat) : Int) ∧ Below w.heap.size w wr) (fun _ i _ => n - (intOf i).toNat)
 case atStart => exact ⟨0, k, Nat.zero_le _, rfl, rfl, rfl, Below.refl _ _⟩
 obtain ⟨j, K, hj, rfl, rfl, hK0, hb0⟩ := hrel
 have HK := hid hK0
 have HBe := hid hb0
 have hle := kM_le N k j n hj
 have K1 : (0 : Int) ≤ K := by omega
 have K2 : K ≤ 1152921504606846900 := by have := HKN.out; omega
 clear hK0 hle
 by_cases hlt : j < n
 ·have e1 : (0 : Int) ≤ (j : Int) := by omega
  have e2 : (j : Int) < (n : Int) := by omega
  have KS := hid (show kM N k j + 7 + 2 * N j ≤ 1152921504606846900 from Nat.le_trans (kM_le N k (j + 1) n hlt) HKN.out)
  obtain ⟨b, off, rfl, hb, _⟩ := H.out.room (j * 8) (by omega)
  have HB := hid hb
  have SUB := hid (wsM_sub (some ⟨b, off, none⟩) A N k n j hlt)
  have dh := (hb0.cell (p := ⟨b, off + j * 8 + 7, none⟩) hb).trans (H.out.hd j hlt)
  have m0 := HV.out _ (SUB.out (adr (some ⟨b, off, none⟩) (j * 8 + 0), .int .i64 ((kM N k j + 0 : Nat) : Int)) (by simp))
  have d0 : wr.cell? ⟨b, off + j * 8, none⟩ = some (.int .i64 (K)) := by
   rw [show (K : Int) = ((kM N k j + 0 : Nat) : Int) by rw [HK.out]; omega]
   exact (hb0.cell (p := ⟨b, off + j * 8, none⟩) hb).trans m0
  clear m0
  have m1 := HV.out _ (SUB.out (adr (some ⟨b, off, none⟩) (j * 8 + 1), .int .i64 ((kM N k j + 1 : Nat) : Int)) (by simp))
  have d1 : wr.cell? ⟨b, off + j * 8 + 1, none⟩ = some (.int .i64 (K + 1)) := by
   rw [show (K + 1 : Int) = ((kM N k j + 1 : Nat) : Int) by rw [HK.out]; omega]
   exact (hb0.cell (p := ⟨b, off + j * 8 + 1, none⟩) hb).trans m1
  clear m1
  have m2 := HV.out _ (SUB.out (adr (some ⟨b, off, none⟩) (j * 8 + 2), .int .i64 ((kM N k j + 2 : Nat) : Int)) (by simp))
  have d2 : wr.cell? ⟨b, off + j * 8 + 2, none⟩ = some (.int .i64 (K + 1 + 1)) := by
   rw [show (K + 1 + 1 : Int) = ((kM N k j + 2 : Nat) : Int) by rw [HK.out]; omega]
   exact (hb0.cell (p := ⟨b, off + j * 8 + 2, none⟩) hb).trans m2
  clear m2
  have m3 := HV.out _ (SUB.out (adr (some ⟨b, off, none⟩) (j * 8 + 3), .int .i64 ((kM N k j + 3 : Nat) : Int)) (by simp))
  have d3 : wr.cell? ⟨b, off + j * 8 + 3, none⟩ = some (.int .i64 (K + 1 + 1 + 1)) := by
   rw [show (K + 1 + 1 + 1 : Int) = ((kM N k j + 3 : Nat) : Int) by rw [HK.out]; omega]
   exact (hb0.cell (p := ⟨b, off + j * 8 + 3, none⟩) hb).trans m3
  clear m3
  have m4 := HV.out _ (SUB.out (adr (some ⟨b, off, none⟩) (j * 8 + 4), .int .i64 ((kM N k j + 4 : Nat) : Int)) (by simp))
  have d4 : wr.cell? ⟨b, off + j * 8 + 4, none⟩ = some (.int .i64 (K + 1 + 1 + 1 + 1)) := by
   rw [show (K + 1 + 1 + 1 + 1 : Int) = ((kM N k j + 4 : Nat) : Int) by rw [HK.out]; omega]
   exact (hb0.cell (p := ⟨b, off + j * 8 + 4, none⟩) hb).trans m4
  clear m4
  have m5 := HV.out _ (SUB.out (adr (some ⟨b, off, none⟩) (j * 8 + 5), .int .i64 ((kM N k j + 5 : Nat) : Int)) (by simp))
  have d5 : wr.cell? ⟨b, off + j * 8 + 5, none⟩ = some (.int .i64 (K + 1 + 1 + 1 + 1 + 1)) := by
   rw [show (K + 1 + 1 + 1 + 1 + 1 : Int) = ((kM N k j + 5 : Nat) : Int) by rw [HK.out]; omega]
   exact (hb0.cell (p := ⟨b, off + j * 8 + 5, none⟩) hb).trans m5
  clear m5
  have ZV := hid (show ∀ p ∈ wsS (A j) (kM N k j + 7) (N j), w.cell? p.1 = some p.2 ∧ p.1.block < w.heap.size from fun p hp => ⟨HV.out p (SUB.out p (List.mem_append.2 (.inr hp))), by
   obtain ⟨q, hq, e9⟩ := wsS_mem _ _ _ p hp
   obtain ⟨b', off', e8, hb', _⟩ := H.out.inner j hlt q hq
   rw [e9, e8]; exact hb'⟩)
  have LT := hid (show b < wr.heap.size from Nat.lt_of_lt_of_le hb hb0.size)
  have mt := HV.out _ (SUB.out (adr (some ⟨b, off, none⟩) (j * 8 + 6), .string (markT (kM N k j + 6))) (by simp))
  have DT := hid (show wr.cell? ⟨b, off + j * 8 + 6, none⟩ = some (.string (markT (kM N k j + 6))) from (hb0.cell (p := ⟨b, off + j * 8 + 6, none⟩) hb).trans mt)
  have DH := hid dh
  clear mt hb0
  go_wp2_with fail
  refine wp_region_held_drew (S := Below wr.heap.size wr) (by kernel_rfl) ((Below.refl _ _).drew) (fun hHeld => ?_)
  simp only [qz, Nat.reduceAdd]
  refine planH.go [0, 1, 2, 3] ?_
  iterate 4 (apply planH.take (at_lit rfl) (by kernel_rfl) (by rfl) (fun _ _ _ h => h) hHeld; (· intro w9 hSw; clear hSw; go_simp; try with_reducible rfl); try simp only [qq])
  refine planH.fin ?_
  refine planH.go [4] ?_
  iterate 1 (apply planH.take (at_lit rfl) (by kernel_rfl) (by rfl) (fun _ _ _ h => h) hHeld; (· intro w9 hSw; have q := (hSw.cell (p := ⟨b, off + j * 8 + 6, none⟩) LT.out).trans DT.out; clear hSw; go_simp; try with_reducible rfl); try simp only [qq])
  refine planH.fin ?_
  refine planH.go [5] ?_
  iterate 1 (apply planH.take (at_lit rfl) (by kernel_rfl) (by rfl) (fun _ _ _ h => h) hHeld; (· intro w9 hSw; clear hSw; go_simp; try with_reducible rfl); try simp only [qq])
  refine planH.fin ?_
  refine wpAnyH_ready (rs := [6]) (by kernel_rfl) (by simp) ?_
  refine AllReadyH.cons (at_lit rfl) (fun K' hK => ?_) AllReadyH.nil
  go_simp
  refine (markText_int (K + 1 + 1 + 1 + 1 + 1 + 1) (kM N k j + 6) _ (by rw [HK.out]; omega) (by have := KS.out; omega)).mono ?_
  rintro e z ⟨rfl, hz⟩
  go_wp2_with fail
  refine hK.out _ _ (ext_trans hHeld hz) (fun hNew => ?_)
  clear hK K' hHeld hz
  have hHeld := hNew
  clear hNew
  try simp only [qq]
  refine planH.go [7] ?_
  iterate 1 (apply planH.take (at_lit rfl) (by kernel_rfl) (by rfl) (fun _ _ _ h => h) hHeld; (· intro w9 hSw; clear hSw; go_simp; try with_reducible rfl); try simp only [qq])
  refine planH.fin ?_
  refine wpAnyH_done (by kernel_rfl) ?_ _
  have HF := hid (ext_trans HBe.out hHeld)
  have dz := (hHeld.cell (p := ⟨b, off + j * 8 + 7, none⟩) LT.out).trans DH.out
  clear hHeld dh d0 d1 d2 d3 d4 d5
  go_wp2_with fail
  refine (heldS_int (A j) (N j) (cp j) (kM N k j + 7) (K + 1 + 1 + 1 + 1 + 1 + 1 + 1) _ (by rw [HK.out]; omega) (by have := KS.out; omega) ((H.out.inner j hlt).ext HF.out) (fun p hp => (HF.out.cell (p := p.1) (ZV.out p hp).2).trans (ZV.out p hp).1)).mono ?_
  rintro e y ⟨rfl, hy⟩
  have HG := hid (ext_trans HF.out hy)
  have e9 : ¬ (((kM N k j + 7 + 2 * N j : Nat) : Int)) < 0 := by omega
  clear hy
  go_wp2
  go_roundw
  case rel => exact ⟨j + 1, _, by omega, by go_num, rfl, by rw [kM_step]; omega, HG.out⟩
  case measure => simp [intOf]; omega
 have hjn : j = n := by omega
 subst hjn
 go_wp2
 go_ret
 exact ⟨by rw [HK.out]; rfl, hb0⟩
end Go.Proofs.YtffklmlljekceaaGreat
