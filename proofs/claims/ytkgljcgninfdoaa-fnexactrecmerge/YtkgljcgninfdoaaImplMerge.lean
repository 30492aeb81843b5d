/-
  impl.RecMerge: at every two lists in blocks of their own.
-/
import Derived.Test.YtkgljcgninfdoaaMergePages
namespace Go.Proofs.Ytkgljcgninfdoaa
open Go.ChangeShapes Go.WideShapes Go.ChangeAt Go.RowKit
set_option linter.unusedVariables false
set_option linter.unusedSimpArgs false

theorem own_ext {w w' : World} {B n k : Nat} {e : TypeId} {v : Value} {xs : List Value} (h : w.ownsRow B e k v n xs) (hb : Below w.heap.size w w') : w'.ownsRow B e k v n xs := by
  refine ⟨h.1, ?_⟩
  rcases h.2 with h0 | ⟨g, cap, cur, hv, hB, hg, r⟩
  · exact .inl h0
  · exact .inr ⟨g, cap, cur, hv, hB, (hb.block g (Array.getElem?_eq_some_iff.1 hg).1).trans hg, r⟩
theorem PageC.news {C : Array Value} {l : List Sl} (h : PageC C l) (j : Nat) (u : Value) (hu : (flat l)[j]? = some u) : C[j]? = some u := by
  have hj := (List.getElem?_eq_some_iff.1 hu).1
  rw [flat_len] at hj
  have hi : j / 2 < l.length := by omega
  have hs : l[j / 2]? = some l[j / 2] := List.getElem?_eq_getElem hi
  have h1 := h.at' _ _ hs
  have h2 := flat_at l _ _ hs
  by_cases hp : j % 2 = 0
  · have e : j = j / 2 * 2 := by omega
    rw [e] at hu ⊢
    rw [← hu, h1.1, h2.1]
  · have e : j = j / 2 * 2 + 1 := by omega
    rw [e] at hu ⊢
    rw [← hu, h1.2, h2.2]
theorem wpList_make_slots {ops : Array Oper} {rest : List Oper} {dst : Option Tmp} {c : Operand} {τ : TypeId} {pos : String} {after : Array Edge} {a : Act} {w : World} {Q : Exit → Act → World → Prop}
    (C : Int) (n : Nat) (hc : a.eval c = .int .i64 C) (hC : C = (n : Int)) (hn : n ≤ 4194304)
    (hK : ∀ w', w'.ownsRow w.heap.size 69 2 (.slice (some ⟨w.heap.size, 0, none⟩) 0 n) 0 [] → w.grownBy w' none → wpList Try.prog ops Q rest (a.put dst (.slice (some ⟨w.heap.size, 0, none⟩) 0 n)) w') :
    wpList Try.prog ops Q ({ dst := dst, op := .makeSlice 27 (.const (.int .i64 0)) c, type := τ, pos := pos, after := after, guard := none } :: rest) a w := by
  obtain ⟨i, h1, h2, h3, h4⟩ := slotInfo
  exact wpList_make_own w rfl _ _ 27 rfl w.heap.size 69 i (.agg #[.int .i64 0, .string ⟨#[]⟩]) 2 Try.underlying27 h1 h2 h3 .i64 .i64 C n rfl hc hC (by rw [h4]; omega) (by unfold maxLen; omega) (Nat.le_refl _) hK
theorem wpList_append_spare {ops : Array Oper} {rest : List Oper} {dst : Option Tmp} {s x : Operand} {τ : TypeId} {pos : String} {after : Array Edge} {a : Act} {w : World} {Q : Exit → Act → World → Prop}
    (B g n cap m c : Nat) (l1 l2 : List Sl) (ad : Addr) (hs : a.eval s = .slice (some ⟨g, 0, none⟩) n cap) (hx : a.eval x = .slice (some ad) m c) (hown : w.ownsRow B 69 2 (.slice (some ⟨g, 0, none⟩) n cap) n (flat l1)) (hm : l2.length = m)
    (hnews : ∀ j u, (flat l2)[j]? = some u → w.cell? (ad.add j) = some u) (hroom : n + m ≤ cap)
    (h : ∀ w', w'.ownsRow B 69 2 (.slice (some ⟨g, 0, none⟩) (n + m) cap) (n + m) (flat (l1 ++ l2)) → w.grownBy w' (some g) → wpList Try.prog ops Q rest (a.put dst (.slice (some ⟨g, 0, none⟩) (n + m) cap)) w') :
    wpList Try.prog ops Q ({ dst := dst, op := .call { callee := .builtin .append, args := #[s, x], argTypes := #[27, 27] }, type := τ, pos := pos, after := after, guard := none } :: rest) a w := by
  obtain ⟨i, h1, h2, h3, h4⟩ := slotInfo
  refine wpList_append_own_spare w rfl s x 27 rfl B 69 i 2 Try.underlying27 h1 h3 g n cap (flat l1) hs hown ad m c (flat l2) hx (by rw [flat_len, hm]) hnews (flat_one l2) hroom ?_
  intro w' q1 q2
  exact h w' (by rw [flat_app]; exact q1) q2

set_option maxHeartbeats 8000000 in
set_option maxRecDepth 20000 in
theorem implMerge (g1 g2 : Nat) (l1 l2 : List Sl) (n1 n2 : Nat) (w : World) (hn1 : l1.length = n1) (hn2 : l2.length = n2) (hc1 : n1 ≤ 1048576) (hc2 : n2 ≤ 1048576) (h1 : Blk w g1 (flat l1).toArray 69) (h2 : Blk w g2 (flat l2).toArray 69) :
    Calls Try.prog 16 #[.slice (some ⟨g1, 0, none⟩) n1 n1, .slice (some ⟨g2, 0, none⟩) n2 n2] w fun e w' => ∃ g, e = .returned (.slice (some ⟨g, 0, none⟩) (max n1 n2) (max n1 n2)) ∧ w.heap.size ≤ g ∧ SlotsOwn w' g (mergeL l1 l2) ∧ Below w.heap.size w w' := by
  have HL : Hid (l1.length = n1 ∧ l2.length = n2) := ⟨hn1, hn2⟩
  have H1 := hid h1
  have H2 := hid h2
  clear hn1 hn2 h1 h2
  obtain ⟨N, hN0⟩ : ∃ N, N = max n1 n2 := ⟨_, rfl⟩
  have hN := hid hN0
  have hNi : max (n1 : Int) (n2 : Int) = (N : Int) := by omega
  have hNb : N ≤ 1048576 := by omega
  have hML := hid (show (mergeL l1 l2).length = N by rw [mergeL_len, HL.out.1, HL.out.2, hN0])
  rw [← hN0]
  clear hN0
  go_enter Try.func16, Try.ntmps16
  go_wp2_with ((with_reducible refine wpList_make_slots (N : Int) N ?_ ?_ ?_ ?_); (· rfl); (· rfl); (· omega); intro w1 q1 q2; have Q1 := hid q1; have Q2 := hid q2; clear q1 q2)
  go_loopw [6, 7] (fun v i wr => ∃ (s : Nat), s ≤ N + 60 ∧ i = .int .i64 s ∧ v = .slice (some ⟨w.heap.size, 0, none⟩) (min s N : Nat) N ∧ wr.ownsRow w.heap.size 69 2 (.slice (some ⟨w.heap.size, 0, none⟩) (min s N : Nat) N) (min s N : Nat) (flat ((mergeL l1 l2).take s)) ∧ Below w.heap.size w wr) (fun _ i _ => N - (intOf i).toNat)
  case atStart => exact ⟨0, Nat.zero_le _, rfl, by rw [Nat.min_eq_left (Nat.zero_le _)], by rw [Nat.min_eq_left (Nat.zero_le _), List.take_zero]; exact Q1.out, ext_grown (Below.refl _ _) Q2.out (fun j hj => by simp at hj)⟩
  case round =>
    obtain ⟨s, hs, rfl, rfl, hown, hbel⟩ := hrel
    have HW := hid hown
    have HBe := hid hbel
    clear hown hbel Q1 Q2
    by_cases hlt : s < N
    · have hm : min s N = s := Nat.min_eq_left (by omega)
      rw [hm] at HW ⊢
      have e1 : (s : Int) < (N : Int) := by omega
      go_wp2_with fail
      refine (pageFrom_any g1 l1 n1 s _ HL.out.1 hc1 (by omega) (H1.out.ext HBe.out)).mono ?_
      rintro e z1 ⟨C1, rfl, p1, hz1⟩
      have P1 := hid p1
      have Z1 := hid (ext_trans HBe.out hz1)
      have W1 := hid (own_ext HW.out hz1)
      clear p1 hz1 HW HBe
      go_wp2_with fail
      refine (pageFrom_any g2 l2 n2 s _ HL.out.2 hc2 (by omega) (H2.out.ext Z1.out)).mono ?_
      rintro e z2 ⟨C2, rfl, p2, hz2⟩
      have P2 := hid p2
      have Z2 := hid (ext_trans Z1.out hz2)
      have W2 := hid (own_ext W1.out hz2)
      clear p2 hz2 Z1 W1
      go_wp2_with fail
      refine (mergePages_any C1 C2 _ _ _ P1.out P2.out).mono ?_
      rintro e z3 ⟨C, rfl, p3, hz3⟩
      have P3 := hid p3
      have Z3 := hid (ext_trans Z2.out hz3)
      have W3 := hid (own_ext W2.out hz3)
      clear hz3 Z2 W2 P1 P2
      obtain ⟨l', hl'⟩ : ∃ l', l' = mergeL ((l1.drop s).take 60) ((l2.drop s).take 60) := ⟨_, rfl⟩
      rw [← hl'] at P3 p3
      have HLL := hid hl'
      have hlen : l'.length = min 60 (N - s) := by
        rw [hl', mergeL_len, List.length_take, List.length_take, List.length_drop, List.length_drop, HL.out.1, HL.out.2, hN.out]; omega
      have hlb : l'.length ≤ 60 := by omega
      have hroom : s + l'.length ≤ N := by omega
      have HLEN := hid hlen
      clear hl' hlen
      have U := p3.used
      have k1 := hid (Blk.new z3 C 76)
      have u1 := (k1.out.cell 120).trans U
      have W4 := hid (own_ext W3.out (ext_alloc (Below.refl _ _) (.cells C 76)))
      have NEWS := hid (show ∀ j u, (flat l')[j]? = some u → (z3.alloc (.cells C 76)).cell? ((⟨z3.heap.size, 0, none⟩ : Addr).add j) = some u from fun j u hu => by rw [show (⟨z3.heap.size, 0, none⟩ : Addr).add j = ⟨z3.heap.size, j, none⟩ by unfold Addr.add; split <;> simp_all]; rw [k1.out.cell]; exact P3.out.toPageC.news j u hu)
      have e2 : (0 : Int) ≤ (l'.length : Int) := by omega
      have e3 : (l'.length : Int) ≤ 60 := by omega
      clear U p3
      go_wp2_with (first
        | ((with_reducible refine wpList_store_page C P3.out.size ?_ ?_ ?_ ?_ ?_); (· rfl); (· rfl); (· exact zero_size); (· exact P3.out.one))
        | ((with_reducible refine wpList_append_spare w.heap.size w.heap.size s N l'.length 60 ((mergeL l1 l2).take s) l' ⟨z3.heap.size, 0, none⟩ ?_ ?_ ?_ ?_ ?_ ?_ ?_); (· rfl); (· rfl); (· exact W4.out); (· rfl); (· exact NEWS.out); (· exact hroom); intro w5 q1 q2; have Q1 := hid q1; have Q2 := hid q2; clear q1 q2))
      go_roundw
      case rel =>
        have h9 := HLEN.out
        refine ⟨s + 60, by omega, by go_num, by rw [show min (s + 60) N = s + l'.length by omega], ?_, ext_grown (ext_alloc Z3.out _) Q2.out (fun j hj => by simp at hj; omega)⟩
        rw [show min (s + 60) N = s + l'.length by omega, ← mergeL_pages, ← HLL.out]
        exact Q1.out
      case measure => simp [intOf]; omega
    · go_wp2
      go_ret
      refine ⟨w.heap.size, by rw [show min s N = N by omega]; rfl, Nat.le_refl _, ?_, HBe.out⟩
      have h9 := HW.out
      rw [show min s N = N by omega, List.take_of_length_le (by rw [hML.out]; omega)] at h9
      rcases h9.2 with ⟨h0, _⟩ | ⟨g, cap, cur, hv, hB, hg, _, _, hcs, ht⟩
      · simp at h0
      · simp only [Value.slice.injEq, Option.some.injEq, Addr.mk.injEq, and_true, true_and] at hv
        obtain ⟨rfl, rfl⟩ := hv
        refine blk_own ?_
        rw [← ht, List.take_of_length_le (by rw [Array.length_toList]; omega)]
        simpa using hg
end Go.Proofs.Ytkgljcgninfdoaa
