import Derived.Test.YtjdceoimignnpaaQ16
import Derived.Test.YtjdceoimignnpaaQ17
namespace Go.Proofs.Ytjdceoimignnpaa
open Go.ChangeShapes Go.WideShapes Go.ChangeAt Go.RowKit
set_option linter.unusedVariables false
set_option linter.unusedSimpArgs false
set_option maxHeartbeats 16000000
set_option maxRecDepth 20000
def ack4 (r : Rc) (f b i : Int) : Rc := if r.lead = true ∧ b = r.ball ∧ 0 < i then ackR r i f else r
theorem specTake4 (B : Nat) (r : Rc) (p : RcP) (X : RcX) (col : Nat → Nat) (mf mt mb mi mn : Int) (mx : ByteArray) (mv : Value) (w : World) (hB : B ≤ w.heap.size) (hd0 : 0 ≤ r.dk) (hd1 : r.dk ≤ r.ds.length) (hS : RcSmall r) (hA1 : r.acks.length ≤ 100000) (hA2 : ∀ (j : Nat) a, r.acks[j]? = some a → a.2.length ≤ 100000) (hi : wfI mi) (hf : wfI mf) (h : RcHas B w r p X col) :
  Calls Try.prog 109 #[.agg (rcV r p), .agg (msgV ⟨4, mf, mt, mb, mi, mn, mx⟩ mv)] w (TPost B w col (ack4 r mf mb mi)) := by
 have HB := hid hB;have HH := hid (show 0 ≤ r.dk ∧ r.dk ≤ r.ds.length ∧ RcSmall r ∧ r.acks.length ≤ 100000 ∧ wfI mi ∧ wfI mf from ⟨hd0, hd1, hS, hA1, hi, hf⟩);have HA := hid hA2;clear hd0 hd1 hS hA1 hA2 hi hf;obtain ⟨V, hV⟩ : ∃ V, V = ((w.alloc (.cells (rcV r p) 31)).alloc (.cells (msgV ⟨4, mf, mt, mb, mi, mn, mx⟩ mv) 49)).alloc (.cells zRc 31) := ⟨_, rfl⟩
 have S0 := hid (show BS B w col ⟨4, mf, mt, mb, mi, mn, mx⟩ mv r p X (colF w.heap.size col) V by rw [hV]; exact BS.start h hB);have BZ := hid (show B ≤ V.heap.size from Nat.le_trans HB.out (by have := S0.out.z.lt; omega));clear h hB;have cK := S0.out.k.cell;have cM := S0.out.ms.cell;have k1 := S0.out.k;have k2 := S0.out.z;rw [hV] at cK cM k1 k2;cases hl : r.lead
 ·have FIN := hid (show ack4 r mf mb mi = r by unfold ack4; rw [if_neg (by rw [hl]; simp)]);go_enter Try.func109, Try.ntmps109
  go_wp2_with (first
   | ((with_reducible refine wpList_load_rec w.heap.size (rcV r p) rfl ?_ ?_ ?_); (· rfl); (· exact k1))
   | ((with_reducible refine wpList_store_rec_at (w.heap.size + 1 + 1) zRc (rcV r p) rfl rfl ?_ ?_ ?_ ?_ ?_); (· rfl); (· rfl); (· exact k2); (· simp [Value.oneCell'])))
  have hz := setRow_heap _ (w.heap.size + 1 + 1) _ (rcV r p) _ _ k2;refine ret_cell (ty := 31) Try.results109 (w.heap.size + 1 + 1) (rcV r p) _ ?_ ?_ hz Try.underlying31 rfl (by kernel_rfl) ?_
  ·rfl
  ·rfl
  rw [FIN.out, ← hV];exact S0.out.same HB.out
 by_cases g1 : mb = r.ball
 ·have u1 : (mb == r.ball) = true := by rw [g1]; exact beq_self_eq_true _
  by_cases g2 : 0 < mi
  ·have u2 : decide (0 < mi) = true := decide_eq_true g2;have FIN := hid (show ack4 r mf mb mi = ackR r mi mf by unfold ack4; rw [if_pos ⟨hl, g1, g2⟩]);clear g1;go_enter Try.func109, Try.ntmps109
   go_wp2_with (first
    | ((with_reducible refine wpList_load_rec w.heap.size (rcV r p) rfl ?_ ?_ ?_); (· rfl); (· exact k1)))
   rw [← hV];clear hV cK cM k1 k2;refine (specAck B r p X _ mi mf _ BZ.out HH.out.1 HH.out.2.1 HH.out.2.2.1 HH.out.2.2.2.1 HA.out HH.out.2.2.2.2.1 HH.out.2.2.2.2.2 S0.out.has).mono ?_;obtain ⟨r1, hr1⟩ : ∃ r1, r1 = ackR r mi mf := ⟨_, rfl⟩
   rw [← hr1] at FIN ⊢;clear hr1;rintro e w1 ⟨p1, X1, c1, rfl, has1, hb1, ot1⟩;obtain ⟨_, _, z1, _⟩ := S0.out.call has1 hb1 ot1;have OUT := hid (S0.out.out HB.out has1 hb1 ot1);clear has1 hb1 ot1;go_wp2_with ((with_reducible refine wpList_store_rec_at (w.heap.size + 1 + 1) zRc (rcV r1 p1) rfl rfl ?_ ?_ ?_ ?_ ?_); (· rfl); (· rfl); (· exact z1); (· simp [Value.oneCell']));have hz := setRow_heap _ (w.heap.size + 1 + 1) _ (rcV r1 p1) _ _ z1;refine ret_cell (ty := 31) Try.results109 (w.heap.size + 1 + 1) (rcV r1 p1) _ ?_ ?_ hz Try.underlying31 rfl (by kernel_rfl) ?_
   ·rfl
   ·rfl
   rw [FIN.out];exact OUT.out
  have u2 : decide (0 < mi) = false := decide_eq_false g2;have FIN := hid (show ack4 r mf mb mi = r by unfold ack4; rw [if_neg (fun q => g2 q.2.2)]);clear g1;go_enter Try.func109, Try.ntmps109
  go_wp2_with (first
   | ((with_reducible refine wpList_load_rec w.heap.size (rcV r p) rfl ?_ ?_ ?_); (· rfl); (· exact k1))
   | ((with_reducible refine wpList_store_rec_at (w.heap.size + 1 + 1) zRc (rcV r p) rfl rfl ?_ ?_ ?_ ?_ ?_); (· rfl); (· rfl); (· exact k2); (· simp [Value.oneCell'])))
  have hz := setRow_heap _ (w.heap.size + 1 + 1) _ (rcV r p) _ _ k2;refine ret_cell (ty := 31) Try.results109 (w.heap.size + 1 + 1) (rcV r p) _ ?_ ?_ hz Try.underlying31 rfl (by kernel_rfl) ?_
  ·rfl
  ·rfl
  rw [FIN.out, ← hV];exact S0.out.same HB.out
 have u1 : (mb == r.ball) = false := beq_false_of_ne g1;have FIN := hid (show ack4 r mf mb mi = r by unfold ack4; rw [if_neg (fun q => g1 q.2.1)]);go_enter Try.func109, Try.ntmps109
 go_wp2_with (first
  | ((with_reducible refine wpList_load_rec w.heap.size (rcV r p) rfl ?_ ?_ ?_); (· rfl); (· exact k1))
  | ((with_reducible refine wpList_store_rec_at (w.heap.size + 1 + 1) zRc (rcV r p) rfl rfl ?_ ?_ ?_ ?_ ?_); (· rfl); (· rfl); (· exact k2); (· simp [Value.oneCell'])))
 have hz := setRow_heap _ (w.heap.size + 1 + 1) _ (rcV r p) _ _ k2;refine ret_cell (ty := 31) Try.results109 (w.heap.size + 1 + 1) (rcV r p) _ ?_ ?_ hz Try.underlying31 rfl (by kernel_rfl) ?_
 ·rfl
 ·rfl
 rw [FIN.out, ← hV];exact S0.out.same HB.out
end Go.Proofs.Ytjdceoimignnpaa
