import Derived.Test.YtjdceoimignnpaaF08
namespace Go.Proofs.Ytjdceoimignnpaa
open Go.ChangeShapes Go.WideShapes Go.ChangeAt Go.RowKit
set_option linter.unusedVariables false
set_option linter.unusedSimpArgs false
set_option maxHeartbeats 32000000
set_option maxRecDepth 20000
theorem dA {ops : Array Oper} {rest : List Oper} {dst : Option Tmp} {x y : Operand} {τ : TypeId} {pos : String} {after : Array Edge} {a : Act} {w : World} {Q : Exit → Act → World → Prop}
  (g : Nat) (old cells : Array Value) (hs : cells.size = 3) (ho : old.size = 3) (hx : a.eval x = .pointer (some ⟨g, 0, none⟩)) (hy : a.eval y = .agg cells) (hg : aC w g old 124) (h1 : cells.all (·.oneCell') = true)
  (h : wpList Try.prog ops Q rest (a.put dst undef) (w.setRow g cells)) :
  wpList Try.prog ops Q ({ dst := dst, op := .store 124 x y, type := τ, pos := pos, after := after, guard := none } :: rest) a w :=
 wpList_store_row (o := { dst := dst, op := .store 124 x y, type := τ, pos := pos, after := after, guard := none }) rfl 124 x y rfl g cells hx hy 124 old hg (by rw [hs]; kernel_rfl) (by rw [ho, hs]) h1 h
theorem EU (w : World) (g : Nat) (ca : Option Addr) (n cap p m : Nat) (h : pO w g ca n cap p) (hp : p ≤ 900000000) (hm : 1 ≤ m ∧ m ≤ 5) (hc : ∀ x, ca = some x → x.block < w.heap.size) :
  Calls Try.prog 88 #[.pointer (some ⟨g, 0, none⟩), .int .i64 (m : Int)] w fun e w' => ∃ (k a : Int) (t : ByteArray) (p' : Nat), e = .returned (.agg #[.int .i64 k, .int .i64 a, .string t]) ∧ t.size ≤ 100 ∧ sZ g w w' ∧ pO w' g ca n cap p' ∧ p' ≤ p + 6 := by
 have HP := hid hp;have HM := hid hm;have HC := hid hc;obtain ⟨V, hV⟩ : ∃ V, V = w.alloc (.cells #[.int .i64 0, .int .i64 0, .string ⟨#[]⟩] 124) := ⟨_, rfl⟩
 have S0 := hid (show RX w g ca n cap [(w.heap.size, 124, #[.int .i64 0, .int .i64 0, .string ⟨#[]⟩])] p V by rw [hV]; exact (RX.start h).new _ _);clear h hp hm hc;go_enter Try.func88, Try.ntmps88;go_wp2_with fail;rw [← hV];clear hV;refine (dD V g ca n cap (p) 14 S0.out.a (by have := HP.out; omega) (by omega) (by omega)).mono ?_;rintro e w1 ⟨v1, rfl, hv1, hu, ha⟩;have S1 := hid (S0.out.pick hu ha);clear hu ha S0;go_wp2_with fail;refine (dD w1 g ca n cap (p + 1) 2 S1.out.a (by have := HP.out; omega) (by omega) (by omega)).mono ?_;rintro e w2 ⟨v2, rfl, hv2, hu, ha⟩;have S2 := hid (S1.out.pick hu ha);clear hu ha S1;by_cases h20 : v2 = 0
 ·subst h20;go_wp2_with fail;refine (dD w2 g ca n cap (p + 1 + 1) 40 S2.out.a (by have := HP.out; omega) (by omega) (by omega)).mono ?_;rintro e w3 ⟨v3, rfl, hv3, hu, ha⟩;have S3 := hid (S2.out.pick hu ha);clear hu ha S2;by_cases h14 : v3 < 14
  ·have e14 : (v3 : Int) < 14 := by omega
   have u14 : decide ((v3 : Int) < 14) = true := decide_eq_true e14;have kz := (S3.out.x _ (.head _)).1;have hR := hid (S3.out.ends (cs' := #[.int .i64 1, .int .i64 0, .string ⟨#[]⟩]) (.head _) HC.out);go_wp2_with ((with_reducible refine dA w.heap.size #[.int .i64 0, .int .i64 0, .string ⟨#[]⟩] #[.int .i64 1, .int .i64 0, .string ⟨#[]⟩] rfl rfl ?_ ?_ ?_ ?_ ?_); rfl; rfl; exact kz; simp [Value.oneCell']);have hz := setRow_heap _ w.heap.size _ #[.int .i64 1, .int .i64 0, .string ⟨#[]⟩] _ _ kz;refine az (ty := 124) Try.results88 w.heap.size #[.int .i64 1, .int .i64 0, .string ⟨#[]⟩] _ ?_ ?_ hz Try.underlying124 rfl (by kernel_rfl) ?_
   ·rfl
   ·rfl
   exact ⟨1, 0, ⟨#[]⟩, _, rfl, by show (0 : Nat) ≤ 100; omega, hR.out.1, hR.out.2, by omega⟩
  have e14 : ¬ (v3 : Int) < 14 := by omega
  have u14 : decide ((v3 : Int) < 14) = false := decide_eq_false e14;by_cases h28 : v3 < 28
  ·have e28 : (v3 : Int) < 28 := by omega
   have u28 : decide ((v3 : Int) < 28) = true := decide_eq_true e28;have kz := (S3.out.x _ (.head _)).1;have hR := hid (S3.out.ends (cs' := #[.int .i64 2, .int .i64 0, .string ⟨#[]⟩]) (.head _) HC.out);go_wp2_with ((with_reducible refine dA w.heap.size #[.int .i64 0, .int .i64 0, .string ⟨#[]⟩] #[.int .i64 2, .int .i64 0, .string ⟨#[]⟩] rfl rfl ?_ ?_ ?_ ?_ ?_); rfl; rfl; exact kz; simp [Value.oneCell']);have hz := setRow_heap _ w.heap.size _ #[.int .i64 2, .int .i64 0, .string ⟨#[]⟩] _ _ kz;refine az (ty := 124) Try.results88 w.heap.size #[.int .i64 2, .int .i64 0, .string ⟨#[]⟩] _ ?_ ?_ hz Try.underlying124 rfl (by kernel_rfl) ?_
   ·rfl
   ·rfl
   exact ⟨2, 0, ⟨#[]⟩, _, rfl, by show (0 : Nat) ≤ 100; omega, hR.out.1, hR.out.2, by omega⟩
  have e28 : ¬ (v3 : Int) < 28 := by omega
  have u28 : decide ((v3 : Int) < 28) = false := decide_eq_false e28;by_cases h30 : v3 < 30
  ·have e30 : (v3 : Int) < 30 := by omega
   have u30 : decide ((v3 : Int) < 30) = true := decide_eq_true e30;have kz := (S3.out.x _ (.head _)).1;have hR := hid (S3.out.ends (cs' := #[.int .i64 3, .int .i64 0, .string ⟨#[]⟩]) (.head _) HC.out);go_wp2_with ((with_reducible refine dA w.heap.size #[.int .i64 0, .int .i64 0, .string ⟨#[]⟩] #[.int .i64 3, .int .i64 0, .string ⟨#[]⟩] rfl rfl ?_ ?_ ?_ ?_ ?_); rfl; rfl; exact kz; simp [Value.oneCell']);have hz := setRow_heap _ w.heap.size _ #[.int .i64 3, .int .i64 0, .string ⟨#[]⟩] _ _ kz;refine az (ty := 124) Try.results88 w.heap.size #[.int .i64 3, .int .i64 0, .string ⟨#[]⟩] _ ?_ ?_ hz Try.underlying124 rfl (by kernel_rfl) ?_
   ·rfl
   ·rfl
   exact ⟨3, 0, ⟨#[]⟩, _, rfl, by show (0 : Nat) ≤ 100; omega, hR.out.1, hR.out.2, by omega⟩
  have e30 : ¬ (v3 : Int) < 30 := by omega
  have u30 : decide ((v3 : Int) < 30) = false := decide_eq_false e30;by_cases hl32 : v3 < 32
  ·have e32 : (v3 : Int) < 32 := by omega
   have u32 : decide ((v3 : Int) < 32) = true := decide_eq_true e32;have kz := (S3.out.x _ (.head _)).1;have hR := hid (S3.out.ends (cs' := #[.int .i64 4, .int .i64 0, .string ⟨#[]⟩]) (.head _) HC.out);go_wp2_with ((with_reducible refine dA w.heap.size #[.int .i64 0, .int .i64 0, .string ⟨#[]⟩] #[.int .i64 4, .int .i64 0, .string ⟨#[]⟩] rfl rfl ?_ ?_ ?_ ?_ ?_); rfl; rfl; exact kz; simp [Value.oneCell']);have hz := setRow_heap _ w.heap.size _ #[.int .i64 4, .int .i64 0, .string ⟨#[]⟩] _ _ kz;refine az (ty := 124) Try.results88 w.heap.size #[.int .i64 4, .int .i64 0, .string ⟨#[]⟩] _ ?_ ?_ hz Try.underlying124 rfl (by kernel_rfl) ?_
   ·rfl
   ·rfl
   exact ⟨4, 0, ⟨#[]⟩, _, rfl, by show (0 : Nat) ≤ 100; omega, hR.out.1, hR.out.2, by omega⟩
  have e32 : ¬ (v3 : Int) < 32 := by omega
  have u32 : decide ((v3 : Int) < 32) = false := decide_eq_false e32;by_cases h32 : v3 = 32
  ·subst h32;go_wp2_with fail;refine (dD w3 g ca n cap (p + 1 + 1 + 1) (m : Int) S3.out.a (by have := HP.out; omega) (by have := HM.out; omega) (by have := HM.out; omega)).mono ?_;rintro e w4 ⟨v4, rfl, hv4, hu, ha⟩;have S4 := hid (S3.out.pick hu ha);clear hu ha S3;have kz := (S4.out.x _ (.head _)).1;have hR := hid (S4.out.ends (cs' := #[.int .i64 5, .int .i64 v4, .string ⟨#[]⟩]) (.head _) HC.out);go_wp2_with ((with_reducible refine dA w.heap.size #[.int .i64 0, .int .i64 0, .string ⟨#[]⟩] #[.int .i64 5, .int .i64 v4, .string ⟨#[]⟩] rfl rfl ?_ ?_ ?_ ?_ ?_); rfl; rfl; exact kz; simp [Value.oneCell']);have hz := setRow_heap _ w.heap.size _ #[.int .i64 5, .int .i64 v4, .string ⟨#[]⟩] _ _ kz;refine az (ty := 124) Try.results88 w.heap.size #[.int .i64 5, .int .i64 v4, .string ⟨#[]⟩] _ ?_ ?_ hz Try.underlying124 rfl (by kernel_rfl) ?_
   ·rfl
   ·rfl
   exact ⟨5, v4, ⟨#[]⟩, _, rfl, by show (0 : Nat) ≤ 100; omega, hR.out.1, hR.out.2, by omega⟩
  have e33 : ¬ (v3 : Int) = 32 := by omega
  have u33 : ((v3 : Int) == 32) = false := by simpa using e33
  by_cases h36 : v3 < 36
  ·have e36 : (v3 : Int) < 36 := by omega
   have u36 : decide ((v3 : Int) < 36) = true := decide_eq_true e36;go_wp2_with fail;refine (dD w3 g ca n cap (p + 1 + 1 + 1) (m : Int) S3.out.a (by have := HP.out; omega) (by have := HM.out; omega) (by have := HM.out; omega)).mono ?_;rintro e w4 ⟨v4, rfl, hv4, hu, ha⟩;have S4 := hid (S3.out.pick hu ha);clear hu ha S3;have kz := (S4.out.x _ (.head _)).1;have hR := hid (S4.out.ends (cs' := #[.int .i64 6, .int .i64 v4, .string ⟨#[]⟩]) (.head _) HC.out);go_wp2_with ((with_reducible refine dA w.heap.size #[.int .i64 0, .int .i64 0, .string ⟨#[]⟩] #[.int .i64 6, .int .i64 v4, .string ⟨#[]⟩] rfl rfl ?_ ?_ ?_ ?_ ?_); rfl; rfl; exact kz; simp [Value.oneCell']);have hz := setRow_heap _ w.heap.size _ #[.int .i64 6, .int .i64 v4, .string ⟨#[]⟩] _ _ kz;refine az (ty := 124) Try.results88 w.heap.size #[.int .i64 6, .int .i64 v4, .string ⟨#[]⟩] _ ?_ ?_ hz Try.underlying124 rfl (by kernel_rfl) ?_
   ·rfl
   ·rfl
   exact ⟨6, v4, ⟨#[]⟩, _, rfl, by show (0 : Nat) ≤ 100; omega, hR.out.1, hR.out.2, by omega⟩
  have e36 : ¬ (v3 : Int) < 36 := by omega
  have u36 : decide ((v3 : Int) < 36) = false := decide_eq_false e36;go_wp2_with fail;refine (dD w3 g ca n cap (p + 1 + 1 + 1) (m : Int) S3.out.a (by have := HP.out; omega) (by have := HM.out; omega) (by have := HM.out; omega)).mono ?_;rintro e w4 ⟨v4, rfl, hv4, hu, ha⟩;have S4 := hid (S3.out.pick hu ha);clear hu ha S3;go_wp2_with fail;refine (textW w4 g ca n cap (p + 1 + 1 + 1 + 1) S4.out.a (by have := HP.out; omega)).mono ?_;rintro e w5 ⟨t, rfl, ht, hw, ha⟩;have S5 := hid (S4.out.rd hw ha);clear hw ha S4;have kz := (S5.out.x _ (.head _)).1;have hR := hid (S5.out.ends (cs' := #[.int .i64 7, .int .i64 v4, .string t]) (.head _) HC.out);go_wp2_with ((with_reducible refine dA w.heap.size #[.int .i64 0, .int .i64 0, .string ⟨#[]⟩] #[.int .i64 7, .int .i64 v4, .string t] rfl rfl ?_ ?_ ?_ ?_ ?_); rfl; rfl; exact kz; simp [Value.oneCell']);have hz := setRow_heap _ w.heap.size _ #[.int .i64 7, .int .i64 v4, .string t] _ _ kz;refine az (ty := 124) Try.results88 w.heap.size #[.int .i64 7, .int .i64 v4, .string t] _ ?_ ?_ hz Try.underlying124 rfl (by kernel_rfl) ?_
  ·rfl
  ·rfl
  exact ⟨7, v4, t, _, rfl, by omega, hR.out.1, hR.out.2, by omega⟩
 have e20 : ¬ (v2 : Int) = 0 := by omega
 have u20 : ((v2 : Int) == 0) = false := by simpa using e20
 go_wp2_with fail;refine (dD w2 g ca n cap (p + 1 + 1) 40 S2.out.a (by have := HP.out; omega) (by omega) (by omega)).mono ?_;rintro e w3 ⟨v3, rfl, hv3, hu, ha⟩;have S3 := hid (S2.out.pick hu ha);clear hu ha S2;by_cases h14 : v3 < 14
 ·have e14 : (v3 : Int) < 14 := by omega
  have u14 : decide ((v3 : Int) < 14) = true := decide_eq_true e14;have kz := (S3.out.x _ (.head _)).1;have hR := hid (S3.out.ends (cs' := #[.int .i64 1, .int .i64 0, .string ⟨#[]⟩]) (.head _) HC.out);go_wp2_with ((with_reducible refine dA w.heap.size #[.int .i64 0, .int .i64 0, .string ⟨#[]⟩] #[.int .i64 1, .int .i64 0, .string ⟨#[]⟩] rfl rfl ?_ ?_ ?_ ?_ ?_); rfl; rfl; exact kz; simp [Value.oneCell']);have hz := setRow_heap _ w.heap.size _ #[.int .i64 1, .int .i64 0, .string ⟨#[]⟩] _ _ kz;refine az (ty := 124) Try.results88 w.heap.size #[.int .i64 1, .int .i64 0, .string ⟨#[]⟩] _ ?_ ?_ hz Try.underlying124 rfl (by kernel_rfl) ?_
  ·rfl
  ·rfl
  exact ⟨1, 0, ⟨#[]⟩, _, rfl, by show (0 : Nat) ≤ 100; omega, hR.out.1, hR.out.2, by omega⟩
 have e14 : ¬ (v3 : Int) < 14 := by omega
 have u14 : decide ((v3 : Int) < 14) = false := decide_eq_false e14;by_cases h28 : v3 < 28
 ·have e28 : (v3 : Int) < 28 := by omega
  have u28 : decide ((v3 : Int) < 28) = true := decide_eq_true e28;have kz := (S3.out.x _ (.head _)).1;have hR := hid (S3.out.ends (cs' := #[.int .i64 2, .int .i64 v1, .string ⟨#[]⟩]) (.head _) HC.out);go_wp2_with ((with_reducible refine dA w.heap.size #[.int .i64 0, .int .i64 0, .string ⟨#[]⟩] #[.int .i64 2, .int .i64 v1, .string ⟨#[]⟩] rfl rfl ?_ ?_ ?_ ?_ ?_); rfl; rfl; exact kz; simp [Value.oneCell']);have hz := setRow_heap _ w.heap.size _ #[.int .i64 2, .int .i64 v1, .string ⟨#[]⟩] _ _ kz;refine az (ty := 124) Try.results88 w.heap.size #[.int .i64 2, .int .i64 v1, .string ⟨#[]⟩] _ ?_ ?_ hz Try.underlying124 rfl (by kernel_rfl) ?_
  ·rfl
  ·rfl
  exact ⟨2, v1, ⟨#[]⟩, _, rfl, by show (0 : Nat) ≤ 100; omega, hR.out.1, hR.out.2, by omega⟩
 have e28 : ¬ (v3 : Int) < 28 := by omega
 have u28 : decide ((v3 : Int) < 28) = false := decide_eq_false e28;by_cases h30 : v3 < 30
 ·have e30 : (v3 : Int) < 30 := by omega
  have u30 : decide ((v3 : Int) < 30) = true := decide_eq_true e30;have kz := (S3.out.x _ (.head _)).1;have hR := hid (S3.out.ends (cs' := #[.int .i64 3, .int .i64 v1, .string ⟨#[]⟩]) (.head _) HC.out);go_wp2_with ((with_reducible refine dA w.heap.size #[.int .i64 0, .int .i64 0, .string ⟨#[]⟩] #[.int .i64 3, .int .i64 v1, .string ⟨#[]⟩] rfl rfl ?_ ?_ ?_ ?_ ?_); rfl; rfl; exact kz; simp [Value.oneCell']);have hz := setRow_heap _ w.heap.size _ #[.int .i64 3, .int .i64 v1, .string ⟨#[]⟩] _ _ kz;refine az (ty := 124) Try.results88 w.heap.size #[.int .i64 3, .int .i64 v1, .string ⟨#[]⟩] _ ?_ ?_ hz Try.underlying124 rfl (by kernel_rfl) ?_
  ·rfl
  ·rfl
  exact ⟨3, v1, ⟨#[]⟩, _, rfl, by show (0 : Nat) ≤ 100; omega, hR.out.1, hR.out.2, by omega⟩
 have e30 : ¬ (v3 : Int) < 30 := by omega
 have u30 : decide ((v3 : Int) < 30) = false := decide_eq_false e30;by_cases hl32 : v3 < 32
 ·have e32 : (v3 : Int) < 32 := by omega
  have u32 : decide ((v3 : Int) < 32) = true := decide_eq_true e32;have kz := (S3.out.x _ (.head _)).1;have hR := hid (S3.out.ends (cs' := #[.int .i64 4, .int .i64 v1, .string ⟨#[]⟩]) (.head _) HC.out);go_wp2_with ((with_reducible refine dA w.heap.size #[.int .i64 0, .int .i64 0, .string ⟨#[]⟩] #[.int .i64 4, .int .i64 v1, .string ⟨#[]⟩] rfl rfl ?_ ?_ ?_ ?_ ?_); rfl; rfl; exact kz; simp [Value.oneCell']);have hz := setRow_heap _ w.heap.size _ #[.int .i64 4, .int .i64 v1, .string ⟨#[]⟩] _ _ kz;refine az (ty := 124) Try.results88 w.heap.size #[.int .i64 4, .int .i64 v1, .string ⟨#[]⟩] _ ?_ ?_ hz Try.underlying124 rfl (by kernel_rfl) ?_
  ·rfl
  ·rfl
  exact ⟨4, v1, ⟨#[]⟩, _, rfl, by show (0 : Nat) ≤ 100; omega, hR.out.1, hR.out.2, by omega⟩
 have e32 : ¬ (v3 : Int) < 32 := by omega
 have u32 : decide ((v3 : Int) < 32) = false := decide_eq_false e32;by_cases h32 : v3 = 32
 ·subst h32;go_wp2_with fail;refine (dD w3 g ca n cap (p + 1 + 1 + 1) (m : Int) S3.out.a (by have := HP.out; omega) (by have := HM.out; omega) (by have := HM.out; omega)).mono ?_;rintro e w4 ⟨v4, rfl, hv4, hu, ha⟩;have S4 := hid (S3.out.pick hu ha);clear hu ha S3;have kz := (S4.out.x _ (.head _)).1;have hR := hid (S4.out.ends (cs' := #[.int .i64 5, .int .i64 v4, .string ⟨#[]⟩]) (.head _) HC.out);go_wp2_with ((with_reducible refine dA w.heap.size #[.int .i64 0, .int .i64 0, .string ⟨#[]⟩] #[.int .i64 5, .int .i64 v4, .string ⟨#[]⟩] rfl rfl ?_ ?_ ?_ ?_ ?_); rfl; rfl; exact kz; simp [Value.oneCell']);have hz := setRow_heap _ w.heap.size _ #[.int .i64 5, .int .i64 v4, .string ⟨#[]⟩] _ _ kz;refine az (ty := 124) Try.results88 w.heap.size #[.int .i64 5, .int .i64 v4, .string ⟨#[]⟩] _ ?_ ?_ hz Try.underlying124 rfl (by kernel_rfl) ?_
  ·rfl
  ·rfl
  exact ⟨5, v4, ⟨#[]⟩, _, rfl, by show (0 : Nat) ≤ 100; omega, hR.out.1, hR.out.2, by omega⟩
 have e33 : ¬ (v3 : Int) = 32 := by omega
 have u33 : ((v3 : Int) == 32) = false := by simpa using e33
 by_cases h36 : v3 < 36
 ·have e36 : (v3 : Int) < 36 := by omega
  have u36 : decide ((v3 : Int) < 36) = true := decide_eq_true e36;go_wp2_with fail;refine (dD w3 g ca n cap (p + 1 + 1 + 1) (m : Int) S3.out.a (by have := HP.out; omega) (by have := HM.out; omega) (by have := HM.out; omega)).mono ?_;rintro e w4 ⟨v4, rfl, hv4, hu, ha⟩;have S4 := hid (S3.out.pick hu ha);clear hu ha S3;have kz := (S4.out.x _ (.head _)).1;have hR := hid (S4.out.ends (cs' := #[.int .i64 6, .int .i64 v4, .string ⟨#[]⟩]) (.head _) HC.out);go_wp2_with ((with_reducible refine dA w.heap.size #[.int .i64 0, .int .i64 0, .string ⟨#[]⟩] #[.int .i64 6, .int .i64 v4, .string ⟨#[]⟩] rfl rfl ?_ ?_ ?_ ?_ ?_); rfl; rfl; exact kz; simp [Value.oneCell']);have hz := setRow_heap _ w.heap.size _ #[.int .i64 6, .int .i64 v4, .string ⟨#[]⟩] _ _ kz;refine az (ty := 124) Try.results88 w.heap.size #[.int .i64 6, .int .i64 v4, .string ⟨#[]⟩] _ ?_ ?_ hz Try.underlying124 rfl (by kernel_rfl) ?_
  ·rfl
  ·rfl
  exact ⟨6, v4, ⟨#[]⟩, _, rfl, by show (0 : Nat) ≤ 100; omega, hR.out.1, hR.out.2, by omega⟩
 have e36 : ¬ (v3 : Int) < 36 := by omega
 have u36 : decide ((v3 : Int) < 36) = false := decide_eq_false e36;go_wp2_with fail;refine (dD w3 g ca n cap (p + 1 + 1 + 1) (m : Int) S3.out.a (by have := HP.out; omega) (by have := HM.out; omega) (by have := HM.out; omega)).mono ?_;rintro e w4 ⟨v4, rfl, hv4, hu, ha⟩;have S4 := hid (S3.out.pick hu ha);clear hu ha S3;go_wp2_with fail;refine (textW w4 g ca n cap (p + 1 + 1 + 1 + 1) S4.out.a (by have := HP.out; omega)).mono ?_;rintro e w5 ⟨t, rfl, ht, hw, ha⟩;have S5 := hid (S4.out.rd hw ha);clear hw ha S4;have kz := (S5.out.x _ (.head _)).1;have hR := hid (S5.out.ends (cs' := #[.int .i64 7, .int .i64 v4, .string t]) (.head _) HC.out);go_wp2_with ((with_reducible refine dA w.heap.size #[.int .i64 0, .int .i64 0, .string ⟨#[]⟩] #[.int .i64 7, .int .i64 v4, .string t] rfl rfl ?_ ?_ ?_ ?_ ?_); rfl; rfl; exact kz; simp [Value.oneCell']);have hz := setRow_heap _ w.heap.size _ #[.int .i64 7, .int .i64 v4, .string t] _ _ kz;refine az (ty := 124) Try.results88 w.heap.size #[.int .i64 7, .int .i64 v4, .string t] _ ?_ ?_ hz Try.underlying124 rfl (by kernel_rfl) ?_
 ·rfl
 ·rfl
 exact ⟨7, v4, t, _, rfl, by omega, hR.out.1, hR.out.2, by omega⟩
end Go.Proofs.Ytjdceoimignnpaa
