import Derived.Test.YtffklmlljekceaaGreatQ32
import Derived.Test.YtffklmlljekceaaGreatQ30
namespace Go.Proofs.YtffklmlljekceaaGreat
open Go.ChangeShapes Go.WideShapes Go.ChangeAt Go.RowKit
set_option linter.unusedSimpArgs false
set_option linter.unusedVariables false
set_option maxHeartbeats 16000000
set_option maxRecDepth 20000
theorem own_extM {w w' : World} {B n k : Nat} {e : TypeId} {v : Value} {xs : List Value} (h : w.ownsRow B e k v n xs) (hb : Below w.heap.size w w') : w'.ownsRow B e k v n xs := by
 refine ⟨h.1, ?_⟩
 rcases h.2 with h0 | ⟨g, cap, cur, hv, hB, hg, r⟩
 ·exact .inl h0
 exact .inr ⟨g, cap, cur, hv, hB, (hb.block g (Array.getElem?_eq_some_iff.1 hg).1).trans hg, r⟩
theorem PageC.news {C : Array Value} {l : List Sl} (h : PageC C l) (j : Nat) (u : Value) (hu : (flat l)[j]? = some u) : C[j]? = some u := by
 have hj := (List.getElem?_eq_some_iff.1 hu).1
 rw [flat_len] at hj
 have hi : j / 2 < l.length := by omega
 have hs : l[j / 2]? = some l[j / 2] := List.getElem?_eq_getElem hi
 have h1 := h.at' _ _ hs
 have h2 := flat_at l _ _ hs
 by_cases hp : j % 2 = 0
 ·have e : j = j / 2 * 2 := by omega
  rw [e] at hu ⊢
  rw [← hu, h1.1, h2.1]
 have e : j = j / 2 * 2 + 1 := by omega
 rw [e] at hu ⊢
 rw [← hu, h1.2, h2.2]
theorem wpList_make_slots {ops : Array Oper} {rest : List Oper} {dst : Option Tmp} {c : Operand} {τ : TypeId} {pos : String} {after : Array Edge} {a : Act} {w : World} {Q : Exit → Act → World → Prop}
  (C : Int) (n : Nat) (hc : a.eval c = .int .i64 C) (hC : C = (n : Int)) (hn : n ≤ 4194304)
  (hK : ∀ w', w'.ownsRow w.heap.size 108 2 (.slice (some ⟨w.heap.size, 0, none⟩) 0 n) 0 [] → w.grownBy w' none → wpList Tryz.prog ops Q rest (a.put dst (.slice (some ⟨w.heap.size, 0, none⟩) 0 n)) w') :
  wpList Tryz.prog ops Q ({ dst := dst, op := .makeSlice 35 (.const (.int .i64 0)) c, type := τ, pos := pos, after := after, guard := none } :: rest) a w := by
 obtain ⟨i, h1, h2, h3, h4⟩ := slotInfo
 exact wpList_make_own w rfl _ _ 35 rfl w.heap.size 108 i (.agg #[.int .i64 0, .string ⟨#[]⟩]) 2 Tryz.underlying35 h1 h2 h3 .i64 .i64 C n rfl hc hC (by rw [h4]; omega) (by unfold maxLen; omega) (Nat.le_refl _) hK
theorem wpList_append_spare {ops : Array Oper} {rest : List Oper} {dst : Option Tmp} {s x : Operand} {τ : TypeId} {pos : String} {after : Array Edge} {a : Act} {w : World} {Q : Exit → Act → World → Prop}
  (B g n cap m c : Nat) (l1 l2 : List Sl) (ad : Addr) (hs : a.eval s = .slice (some ⟨g, 0, none⟩) n cap) (hx : a.eval x = .slice (some ad) m c) (hown : w.ownsRow B 108 2 (.slice (some ⟨g, 0, none⟩) n cap) n (flat l1)) (hm : l2.length = m)
  (hnews : ∀ j u, (flat l2)[j]? = some u → w.cell? (ad.add j) = some u) (hroom : n + m ≤ cap)
  (h : ∀ w', w'.ownsRow B 108 2 (.slice (some ⟨g, 0, none⟩) (n + m) cap) (n + m) (flat (l1 ++ l2)) → w.grownBy w' (some g) → wpList Tryz.prog ops Q rest (a.put dst (.slice (some ⟨g, 0, none⟩) (n + m) cap)) w') :
  wpList Tryz.prog ops Q ({ dst := dst, op := .call { callee := .builtin .append, args := #[s, x], argTypes := #[35, 35] }, type := τ, pos := pos, after := after, guard := none } :: rest) a w := by
 obtain ⟨i, h1, h2, h3, h4⟩ := slotInfo
 refine wpList_append_own_spare w rfl s x 35 rfl B 108 i 2 Tryz.underlying35 h1 h3 g n cap (flat l1) hs hown ad m c (flat l2) hx (by rw [flat_len, hm]) hnews (flat_one l2) hroom ?_
 intro w' q1 q2
 exact h w' (by rw [flat_app]; exact q1) q2
theorem pageFrom_g (ad : Option Addr) (l : List Sl) (n cap start : Nat) (w : World) (hn : l.length = n) (hc : n ≤ 1048576) (hcap : n ≤ cap ∧ cap ≤ maxLen) (hs : start ≤ 4194304) (h : SlotsAt w ad l) :
  Calls Tryz.prog 162 #[.slice ad n cap, .int .i64 start] w fun e w' => ∃ C, e = .returned (.agg C) ∧ PageOk C ((l.drop start).take 60) ∧ Below w.heap.size w w' := by
 have HL := hid hn
 clear hn
 by_cases hlt : start < n
 ·obtain ⟨g, off, rfl⟩ : ∃ g off, ad = some ⟨g, off, none⟩ := by
   obtain ⟨b, off, ha, _⟩ := h start _ (List.getElem?_eq_getElem (by rw [HL.out]; exact hlt))
   exact ⟨b, off, ha⟩
  unfold maxLen at hcap
  obtain ⟨hcap1, hcap2⟩ := hcap
  have e5 : (start : Int) ≤ (cap : Int) := by omega
  have e6 : (n : Int) ≤ (cap : Int) := by omega
  have e1 : (0 : Int) ≤ (start : Int) := by omega
  have e2 : (start : Int) ≤ (n : Int) := by omega
  have e3 : (start : Int) < (n : Int) := by omega
  have e4 : ¬ cap = start := by omega
  obtain ⟨l', hl'⟩ : ∃ l', l' = (l.drop start).take 60 := ⟨_, rfl⟩
  have HLL := hid hl'
  have HL60 := hid (show l'.length ≤ 60 by rw [hl', List.length_take]; omega)
  have HP := hid (page_copied l' HL60.out)
  rw [← hl']
  clear hl'
  go_enter Tryz.func162, Tryz.ntmps162
  have k0 : Blk ((w.alloc (.cells Tryz.zeroCells167 167)).alloc (.cells Tryz.zeroCells167 167)) w.heap.size Tryz.zeroCells167 167 := (Blk.new w _ _).alloc _
  have k1 : Blk ((w.alloc (.cells Tryz.zeroCells167 167)).alloc (.cells Tryz.zeroCells167 167)) (w.heap.size + 1) Tryz.zeroCells167 167 := Blk.new' _ _ (by simp)
  have hB : Below w.heap.size w ((w.alloc (.cells Tryz.zeroCells167 167)).alloc (.cells Tryz.zeroCells167 167)) := ext_alloc (ext_alloc (Below.refl _ _) _) _
  have hbg := (h.ext hB)
  have K0 := hid k0
  have K1 := hid k1
  have HB := hid hB
  have HG := hid hbg
  clear k0 k1 hB hbg h
  go_wp2_with fail
  refine wp_region_held_drew (S := fun _ => True) (by kernel_rfl) trivial (fun _ => ?_)
  simp only [qz, Nat.reduceAdd]
  refine wpAnyH_take (i := 0) (v := ?_) (at_lit rfl) (by kernel_rfl) (by kernel_rfl) (by kernel_rfl) (fun _ _ _ h => h) (Or.inl ⟨by rfl, ?_⟩) trivial ?_
  rotate_left
  ·(intro w9 hSw; clear hSw; go_simp; try with_reducible rfl)
  try simp only [qq]
  refine wpAnyH_take (i := 1) (v := ?_) (at_lit rfl) (by kernel_rfl) (by kernel_rfl) (by kernel_rfl) (fun _ _ _ h => h) (Or.inl ⟨by rfl, ?_⟩) trivial ?_
  rotate_left
  ·(intro w9 hSw; clear hSw; go_simp; try with_reducible rfl)
  try simp only [qq]
  refine wpAnyH_take (i := 2) (v := ?_) (at_lit rfl) (by kernel_rfl) (by kernel_rfl) (by kernel_rfl) (fun _ _ _ h => h) (Or.inl ⟨by rfl, ?_⟩) trivial ?_
  rotate_left
  ·(intro w9 hSw; clear hSw; go_simp; try with_reducible rfl)
  try simp only [qq]
  refine wpAnyH_take (i := 3) (v := ?_) (at_lit rfl) (by kernel_rfl) (by kernel_rfl) (by kernel_rfl) (fun _ _ _ h => h) (Or.inl ⟨by rfl, ?_⟩) trivial ?_
  rotate_left
  ·(intro w9 hSw; clear hSw; go_simp; try with_reducible rfl)
  try simp only [qq]
  refine wpAnyH_take (i := 4) (v := ?_) (at_lit rfl) (by kernel_rfl) (by kernel_rfl) (by kernel_rfl) (fun _ _ _ h => h) (Or.inl ⟨by rfl, ?_⟩) trivial ?_
  rotate_left
  ·(intro w9 hSw; clear hSw; go_simp; try with_reducible rfl)
  try simp only [qq]
  refine rdH 5 (by kernel_rfl) (at_lit rfl) (fun K hK => ?_)
  refine step_copy_slots rfl (.tmp 11) (.tmp 14) rfl (w.heap.size + 1) 0 60 60 ⟨g, off + start * 2, none⟩ (n - start) (cap - start) rfl rfl Tryz.zeroCells167 167 l' (Blk.drew K1.out) ?_ ?_ ?_ ?_
  ·rw [HLL.out, List.length_take, List.length_drop, HL.out]; exact Nat.min_comm _ _
  ·intro j v hv
   have hv2 := hv
   rw [HLL.out, flat_take, flat_drop] at hv2
   have hj : j < 60 * 2 := by
    have := (List.getElem?_eq_some_iff.1 hv2).1
    rw [List.length_take] at this
    omega
   rw [List.getElem?_take_of_lt hj, List.getElem?_drop] at hv2
   rw [Addr.add_mid]
   have hcell := HG.out.news (start * 2 + j) v hv2
   rw [Addr.add_mid] at hcell
   rw [Nat.add_assoc]
   exact hcell
  ·have h8 := flat_len l'
   have h7 := zero_size
   have h6 := HL60.out
   omega
  intro w2 C hC hBk hBe
  refine hK.out _ _ trivial (fun _ => ?_)
  clear hK K
  try simp only [qq]
  refine wpAnyH_take (i := 6) (v := ?_) (at_lit rfl) (by kernel_rfl) (by kernel_rfl) (by kernel_rfl) (fun _ _ _ h => h) (Or.inl ⟨by rfl, ?_⟩) trivial ?_
  rotate_left
  ·(intro w9 hSw; clear hSw; go_simp; try with_reducible rfl)
  try simp only [qq]
  refine rdH 7 (by kernel_rfl) (at_lit rfl) (fun K hK => ?_)
  have hCz : C.size = 121 := by
   have := HP.out.size
   rw [Array.size_setIfInBounds, ← hC.out] at this
   exact this
  obtain ⟨x, hx⟩ : ∃ x, C[120]? = some x := ⟨_, Array.getElem?_eq_getElem (by omega)⟩
  have c0 := (hBk.out.cell 120).trans hx
  have f0 := hBk.out.free 120
  go_simp
  refine hK.out _ _ trivial (fun _ => ?_)
  clear hK K c0 f0 hx hCz
  try simp only [qq]
  refine wpAnyH_done (by kernel_rfl) ?_ _
  rw [← hC.out] at HP
  have b1 := hid (heap_setCell_same w2 (w.heap.size + 1) 120 C 167 (.int .i64 l'.length) hBk.out)
  have b0 := hid (show Blk (w2.setCell ⟨w.heap.size + 1, 120, none⟩ (.int .i64 l'.length)) w.heap.size Tryz.zeroCells167 167 from ((Blk.drew K0.out).below hBe.out (by omega)).setCell (by simp) _)
  have bb := hid (show Below w.heap.size w (w2.setCell ⟨w.heap.size + 1, 120, none⟩ (.int .i64 l'.length)) from ((HB.out.drew).trans (hBe.out.mono (by omega))).setCell (by simp) _)
  clear hBk hBe hC
  go_wp2_with (first
   | ((with_reducible refine wpList_load_page (w.heap.size + 1) (C.setIfInBounds 120 (.int .i64 l'.length)) HP.out.size ?_ ?_ ?_); (· rfl); (· exact b1.out))
   | ((with_reducible refine wpList_store_page_at w.heap.size Tryz.zeroCells167 (C.setIfInBounds 120 (.int .i64 l'.length)) HP.out.size zero_size ?_ ?_ ?_ ?_ ?_); (· rfl); (· rfl); (· exact b0.out); (· exact HP.out.one)))
  refine ret_cell (ty := 167) Tryz.results162 w.heap.size (C.setIfInBounds 120 (.int .i64 l'.length)) _ ?_ ?_ (setRow_heap _ w.heap.size _ _ _ _ b0.out) Tryz.underlying167 rfl (pageSize HP.out.size) ⟨_, rfl, HP.out, bb.out.trans ⟨rfl, rfl, rfl, by simp, fun k hk => setRow_other _ w.heap.size k _ (by omega)⟩⟩
  ·rfl
  rfl
 go_enter Tryz.func162, Tryz.ntmps162
 have k0 : Blk ((w.alloc (.cells Tryz.zeroCells167 167)).alloc (.cells Tryz.zeroCells167 167)) w.heap.size Tryz.zeroCells167 167 := (Blk.new w _ _).alloc _
 have k1 : Blk ((w.alloc (.cells Tryz.zeroCells167 167)).alloc (.cells Tryz.zeroCells167 167)) (w.heap.size + 1) Tryz.zeroCells167 167 := Blk.new' _ _ (by simp)
 have hB : Below w.heap.size w ((w.alloc (.cells Tryz.zeroCells167 167)).alloc (.cells Tryz.zeroCells167 167)) := ext_alloc (ext_alloc (Below.refl _ _) _) _
 have K0 := hid k0
 have K1 := hid k1
 have HB := hid hB
 clear k0 k1 hB
 go_wp2_with (first
  | ((with_reducible refine wpList_load_page (w.heap.size + 1) Tryz.zeroCells167 zero_size ?_ ?_ ?_); (· rfl); (· exact K1.out))
  | ((with_reducible refine wpList_store_page_at w.heap.size Tryz.zeroCells167 Tryz.zeroCells167 zero_size zero_size ?_ ?_ ?_ ?_ ?_); (· rfl); (· rfl); (· exact K0.out); (· exact zero_one)))
 refine ret_cell (ty := 167) Tryz.results162 w.heap.size Tryz.zeroCells167 _ ?_ ?_ (setRow_heap _ w.heap.size _ _ _ _ K0.out) Tryz.underlying167 rfl (pageSize zero_size) ⟨_, rfl, ?_, HB.out.trans ⟨rfl, rfl, rfl, by simp, fun k hk => setRow_other _ w.heap.size k _ (by omega)⟩⟩
 ·rfl
 ·rfl
 rw [List.drop_eq_nil_of_le (by rw [HL.out]; omega), List.take_nil]; exact page_zero
theorem implMergeG (a1 a2 : Option Addr) (l1 l2 : List Sl) (n1 n2 k1 k2 : Nat) (w : World) (hn1 : l1.length = n1) (hn2 : l2.length = n2) (hc1 : n1 ≤ 1048576) (hc2 : n2 ≤ 1048576) (hk1 : n1 ≤ k1 ∧ k1 ≤ maxLen) (hk2 : n2 ≤ k2 ∧ k2 ≤ maxLen) (h1 : SlotsAt w a1 l1) (h2 : SlotsAt w a2 l2) :
  Calls Tryz.prog 151 #[.slice a1 n1 k1, .slice a2 n2 k2] w fun e w' => ∃ g, e = .returned (.slice (some ⟨g, 0, none⟩) (max n1 n2) (max n1 n2)) ∧ w.heap.size ≤ g ∧ SlotsOwn w' g (mergeL l1 l2) ∧ Below w.heap.size w w' := by
 have HL : Hid (l1.length = n1 ∧ l2.length = n2) := ⟨hn1, hn2⟩
 have HK1 := hid hk1
 have HK2 := hid hk2
 have H1 := hid h1
 have H2 := hid h2
 clear hn1 hn2 h1 h2 hk1 hk2
 obtain ⟨N, hN0⟩ : ∃ N, N = max n1 n2 := ⟨_, rfl⟩
 have hN := hid hN0
 have hNi : max (n1 : Int) (n2 : Int) = (N : Int) := by omega
 have hNb : N ≤ 1048576 := by omega
 have hML := hid (show (mergeL l1 l2).length = N by rw [mergeL_len, HL.out.1, HL.out.2, hN0])
 rw [← hN0]
 clear hN0
 go_enter Tryz.func151, Tryz.ntmps151
 go_wp2_with ((with_reducible refine wpList_make_slots (N : Int) N ?_ ?_ ?_ ?_); (· rfl); (· rfl); (· omega); intro w1 q1 q2; have Q1 := hid q1; have Q2 := hid q2; clear q1 q2)
 go_loopw [6, 7] (fun v i wr => ∃ (s : Nat), s ≤ N + 60 ∧ i = .int .i64 s ∧ v = .slice (some ⟨w.heap.size, 0, none⟩) (min s N : Nat) N ∧ wr.ownsRow w.heap.size 108 2 (.slice (some ⟨w.heap.size, 0, none⟩) (min s N : Nat) N) (min s N : Nat) (flat ((mergeL l1 l2).take s)) ∧ Below w.heap.size w wr) (fun _ i _ => N - (intOf i).toNat)
 case atStart => exact ⟨0, Nat.zero_le _, rfl, by rw [Nat.min_eq_left (Nat.zero_le _)], by rw [Nat.min_eq_left (Nat.zero_le _), List.take_zero]; exact Q1.out, ext_grown (Below.refl _ _) Q2.out (fun j hj => by simp at hj)⟩
 obtain ⟨s, hs, rfl, rfl, hown, hbel⟩ := hrel
 have HW := hid hown
 have HBe := hid hbel
 clear hown hbel Q1 Q2
 by_cases hlt : s < N
 ·have hm : min s N = s := Nat.min_eq_left (by omega)
  rw [hm] at HW ⊢
  have e1 : (s : Int) < (N : Int) := by omega
  go_wp2_with fail
  refine (pageFrom_g a1 l1 n1 k1 s _ HL.out.1 hc1 HK1.out (by omega) (H1.out.ext HBe.out)).mono ?_
  rintro e z1 ⟨C1, rfl, p1, hz1⟩
  have P1 := hid p1
  have Z1 := hid (ext_trans HBe.out hz1)
  have W1 := hid (own_extM HW.out hz1)
  clear p1 hz1 HW HBe
  go_wp2_with fail
  refine (pageFrom_g a2 l2 n2 k2 s _ HL.out.2 hc2 HK2.out (by omega) (H2.out.ext Z1.out)).mono ?_
  rintro e z2 ⟨C2, rfl, p2, hz2⟩
  have P2 := hid p2
  have Z2 := hid (ext_trans Z1.out hz2)
  have W2 := hid (own_extM W1.out hz2)
  clear p2 hz2 Z1 W1
  go_wp2_with fail
  refine (mergePages_any C1 C2 _ _ _ P1.out P2.out).mono ?_
  rintro e z3 ⟨C, rfl, p3, hz3⟩
  have P3 := hid p3
  have Z3 := hid (ext_trans Z2.out hz3)
  have W3 := hid (own_extM W2.out hz3)
  clear hz3 Z2 W2 P1 P2
  obtain ⟨l', hl'⟩ : ∃ l', l' = mergeL ((l1.drop s).take 60) ((l2.drop s).take 60) := ⟨_, rfl⟩
  rw [← hl'] at P3 p3
  have HLL := hid hl'
  have hlen : l'.length = min 60 (N - s) := by
   rw [hl', mergeL_len, List.length_take, List.length_take, List.length_drop, List.length_drop, HL.out.1, HL.out.2, hN.out]; omega
  have hlb : l'.length ≤ 60 := by omega
  have hroom : s + l'.length ≤ N := by omega
  have HLEN := hid hlen
  clear hl' hlen
  have U := p3.used
  have k1 := hid (Blk.new z3 C 167)
  have u1 := (k1.out.cell 120).trans U
  have W4 := hid (own_extM W3.out (ext_alloc (Below.refl _ _) (.cells C 167)))
  have NEWS := hid (show ∀ j u, (flat l')[j]? = some u → (z3.alloc (.cells C 167)).cell? ((⟨z3.heap.size, 0, none⟩ : Addr).add j) = some u from fun j u hu => by rw [show (⟨z3.heap.size, 0, none⟩ : Addr).add j = ⟨z3.heap.size, j, none⟩ by unfold Addr.add; split <;> simp_all]; rw [k1.out.cell]; exact P3.out.toPageC.news j u hu)
  have e2 : (0 : Int) ≤ (l'.length : Int) := by omega
  have e3 : (l'.length : Int) ≤ 60 := by omega
  clear U p3
  go_wp2_with (first
   | ((with_reducible refine wpList_store_page C P3.out.size ?_ ?_ ?_ ?_ ?_); (· rfl); (· rfl); (· exact zero_size); (· exact P3.out.one))
   | ((with_reducible refine wpList_append_spare w.heap.size w.heap.size s N l'.length 60 ((mergeL l1 l2).take s) l' ⟨z3.heap.size, 0, none⟩ ?_ ?_ ?_ ?_ ?_ ?_ ?_); (· rfl); (· rfl); (· exact W4.out); (· rfl); (· exact NEWS.out); (· exact hroom); intro w5 q1 q2; have Q1 := hid q1; have Q2 := hid q2; clear q1 q2))
  go_roundw
  case rel =>
   have h9 := HLEN.out
   refine ⟨s + 60, by omega, by go_num, by rw [show min (s + 60) N = s + l'.length by omega], ?_, ext_grown (ext_alloc Z3.out _) Q2.out (fun j hj => by simp at hj; omega)⟩
   rw [show min (s + 60) N = s + l'.length by omega, ← mergeL_pages, ← HLL.out]
   exact Q1.out
  case measure => simp [intOf]; omega
 go_wp2
 go_ret
 refine ⟨w.heap.size, by rw [show min s N = N by omega]; rfl, Nat.le_refl _, ?_, HBe.out⟩
 have h9 := HW.out
 rw [show min s N = N by omega, List.take_of_length_le (by rw [hML.out]; omega)] at h9
 rcases h9.2 with ⟨h0, _⟩ | ⟨g, cap, cur, hv, hB, hg, _, _, hcs, ht⟩
 ·simp at h0
 simp only [Value.slice.injEq, Option.some.injEq, Addr.mk.injEq, and_true, true_and] at hv
 obtain ⟨rfl, rfl⟩ := hv
 refine blk_own ?_
 rw [← ht, List.take_of_length_le (by rw [Array.length_toList]; omega)]
 simpa using hg
theorem mostOf_same (a : Option Addr) (n cap : Nat) (o : Int) (w : World) (hc : n ≤ 1048576) :
  Calls Tryz.prog 152 #[.slice a n cap, .int .i64 o] w fun e w' => e = .returned (.bool (decide (o < 2 * (n : Int)))) ∧ w' = w := by
 have e5 : IntKind.i64.wrap (2 * (n : Int)) = 2 * (n : Int) := by go_arith
 go_enter Tryz.func152, Tryz.ntmps152
 go_wp2
 go_ret
 exact ⟨rfl, rfl⟩
theorem rowC_cap {B : Nat} {w : World} {col : Nat → Nat} {t : Nat} {e : TypeId} {k : Nat} {a : Option Addr} {n c : Nat} {xs : List Value} (h : RowC B w col t e k a n c xs) : n ≤ c ∧ c ≤ maxLen := by
 rcases h.own.2 with ⟨h0, h1⟩ | ⟨g, cap, cur, hv, _, _, h1, h2, _⟩
 ·simp only [Value.slice.injEq] at h0
  rw [h0.2.2, h1]
  unfold maxLen
  omega
 simp only [Value.slice.injEq] at hv
 rw [hv.2.2]
 exact ⟨h1, h2⟩
theorem GPost.chain {B g : Nat} {w w1 w2 : World} {col col1 : Nat → Nat} {r2 : Rc} (hb : Below B w w1) (ot : ∀ b, b < w.heap.size → b ≠ g → 8 < col b → w1.heap[b]? = w.heap[b]? ∧ 8 < col1 b) (gp : GPost B g w1 col1 r2 w2) : GPost B g w col r2 w2 := by
 obtain ⟨p2, X2, c2, k, has, hc, hb2, ot2⟩ := gp
 have hsz := hb.size
 refine ⟨p2, X2, c2, k, has, hc, hb.trans hb2, fun b hlt hne h8 => ?_⟩
 obtain ⟨q1, q2⟩ := ot b hlt hne h8
 obtain ⟨q3, q4⟩ := ot2 b (by omega) hne q2
 exact ⟨q3.trans q1, q4⟩
theorem GPost.yes {B g : Nat} {w w1 : World} {r : Rc} {p : RcP} {X : RcX} {col : Nat → Nat} (hg : B ≤ g) (hk : Blk w g (rcV r p) 41) (hc : 8 < col g) (h : RcHas B w r p X col) {a' : Option Addr} {c' : Nat} {l : List Int}
  (gr : w.grownBy w1 (Value.slice p.aY r.yes.length p.cY).ownBlock) (ho : w1.ownsRow B 3 1 (.slice a' l.length c') l.length (flatI l)) (hn : NewOr w p.aY a') (hl : GoodOnes wfI l) : GPost B g w col { r with yes := l } (w1.setCell ⟨g, 14, none⟩ (.slice a' l.length c')) ∧ Blk w1 g (rcV r p) 41 := by
 have hne : ∀ b, 8 < col b → some b ≠ (Value.slice p.aY r.yes.length p.cY).ownBlock := fun b h8 e => by
  cases hs : p.aY with
  | none => rw [hs] at e; simp [Value.ownBlock] at e
  | some y =>
   rw [hs] at e
   simp only [Value.ownBlock, Option.some.injEq] at e
   have := h.y.col y hs
   rw [← e] at this
   omega
 have hB : B ≤ w.heap.size := Nat.le_trans hg (Nat.le_of_lt hk.lt)
 have k1 : Blk w1 g (rcV r p) 41 := (gr.block g hk.lt (hne g hc)).trans hk
 have hcol : ∀ b, b < w.heap.size → 8 < col b → colN a' 4 col b = col b := fun b hlt h8 => colN_else fun x hx e => by
  rcases hn x hx with ⟨y, hy, he⟩ | h1
  ·have := h.y.col y hy
   rw [he, e] at this
   omega
  omega
 have bel : Below B w w1 := ⟨gr.os, gr.tape, gr.output, gr.size, fun b hb => gr.block b (by omega) (fun e => by
  cases hs : p.aY with
  | none => rw [hs] at e; simp [Value.ownBlock] at e
  | some y =>
   rw [hs] at e
   simp only [Value.ownBlock, Option.some.injEq] at e
   have := (h.y.lt y hs).1
   omega)⟩
 refine ⟨⟨{ p with aY := a', cY := c' }, X, colN a' 4 col, ?_, ?_, by rw [hcol g hk.lt hc]; exact hc, below_set bel hg _, fun b hlt hbg h8 => ⟨(heap_setCell_other _ ⟨g, 14, none⟩ b _ hbg).trans (gr.block b hlt (hne b h8)), by rw [hcol b hlt h8]; exact h8⟩⟩, k1⟩
 ·have := k1.set (o := 14) (.slice a' l.length c')
  simpa using this
 exact (h.grow_y gr ho hn hl).setCell (q := ⟨g, 14, none⟩) (by show 8 < colN a' 4 col g; rw [hcol g hk.lt hc]; exact hc) _
theorem slots_rowT {w : World} {B g t : Nat} {col : Nat → Nat} {l : List Sl} (h : SlotsOwn w g l) (hB : B ≤ g) (hn : l.length ≤ maxLen) (hc : col g = t) : RowC B w col t 108 2 (some ⟨g, 0, none⟩) l.length l.length (flat l) :=
 ⟨⟨flat_len l, .inr ⟨g, l.length, (flat l).toArray, rfl, hB, own_blk h, Nat.le_refl _, hn, by rw [List.size_toArray, flat_len], by rw [← flat_len l, List.take_length]⟩⟩, fun x hx => by simp only [Option.some.injEq] at hx; rw [← hx]; exact hc⟩
theorem GPost.best {B g gm : Nat} {w w1 : World} {r : Rc} {p : RcP} {X : RcX} {col : Nat → Nat} (hg : B ≤ g) (hk : Blk w g (rcV r p) 41) (hc : 8 < col g) (h : RcHas B w r p X col) {l : List Sl}
  (hb : Below w.heap.size w w1) (hgm : w.heap.size ≤ gm) (ho : SlotsOwn w1 gm l) (hl : GoodSlots l) (hn : l.length ≤ maxLen) : GPost B g w col { r with best := l } (w1.setCell ⟨g, 15, none⟩ (.slice (some ⟨gm, 0, none⟩) l.length l.length)) := by
 have hB : B ≤ w.heap.size := Nat.le_trans hg (Nat.le_of_lt hk.lt)
 have hcol : ∀ b, b < w.heap.size → colN (some ⟨gm, 0, none⟩) 5 col b = col b := fun b hlt => colN_else fun x hx e => by
  simp only [Option.some.injEq] at hx
  rw [← hx] at e
  have : gm = b := e
  omega
 refine ⟨{ p with aB := some ⟨gm, 0, none⟩, cB := l.length }, X, colN (some ⟨gm, 0, none⟩) 5 col, ?_, ?_, by rw [hcol g hk.lt]; exact hc, below_set (hb.mono hB) hg _, fun b hlt hbg h8 => ⟨(heap_setCell_other _ ⟨g, 15, none⟩ b _ hbg).trans (hb.block b hlt), by rw [hcol b hlt]; exact h8⟩⟩
 ·have := (hk.ext hb).set (o := 15) (.slice (some ⟨gm, 0, none⟩) l.length l.length)
  simpa using this
 refine RcHas.setCell (q := ⟨g, 15, none⟩) ?_ (by show 8 < colN (some ⟨gm, 0, none⟩) 5 col g; rw [hcol g hk.lt]; exact hc) _
 exact ((h.recol hcol).ext hb).set_b (slots_rowT ho (by omega) hn (if_pos rfl)) hl
theorem implPromise (B g : Nat) (r : Rc) (p : RcP) (X : RcX) (col : Nat → Nat) (f : Int) (al : Option Addr) (l : List Sl) (cl : Nat) (w : World) (hg : B ≤ g) (hk : Blk w g (rcV r p) 41) (hc : 8 < col g) (hd0 : 0 ≤ r.dk) (hd1 : r.dk ≤ r.ds.length) (hS : RcSmall r) (hbw : wfI r.ball) (hf : wfI f) (hy : r.yes.length ≤ 1000) (hasc : AscI r.yes) (hl : l.length ≤ 1048576) (hcl : l.length ≤ cl ∧ cl ≤ maxLen) (hsl : SlotsAt w al l) (hsa : ∀ x, al = some x → x.block ≠ g ∧ ∀ y, p.aY = some y → y.block ≠ x.block) (h : RcHas B w r p X col) :
  Calls Tryz.prog 136 #[.pointer (some ⟨g, 0, none⟩), .int .i64 f, .slice al l.length cl] w fun e w' => (∃ v, e = .returned v) ∧ GPost B g w col (promR r f l) w' := by
 have HG := hid hg
 have HB := hid (show B ≤ w.heap.size from Nat.le_trans hg (Nat.le_of_lt hk.lt))
 have HS := hid hS
 have SL := hid hsl
 have GS := hid hsl.good
 have SA := hid hsa
 have HK := hid hk
 have HC := hid hc
 have RD := hid h
 have HCL := hid hcl
 have HX := hid (show 0 ≤ r.dk ∧ r.dk ≤ r.ds.length ∧ wfI r.ball ∧ wfI f from ⟨hd0, hd1, hbw, hf⟩)
 have HA := hid hasc
 have cK := hk.cell
 have fK := hk.free
 clear h hg hk hc hS hsl hsa hcl hd0 hd1 hbw hf hasc
 go_enter Tryz.func136, Tryz.ntmps136
 go_wp2_with fail
 refine (withNum B p.aY p.cY r.yes f w RD.out.y.own RD.out.at.hY HA.out hy HB.out).mono ?_
 rintro e w1 ⟨a1, c1, rfl, ho1, gr1, hN1⟩
 obtain ⟨gp1, k1⟩ := GPost.yes HG.out HK.out HC.out RD.out gr1 ho1 hN1 (addL_good RD.out.gd.y HX.out.2.2.2)
 have LY := addL_len r.yes f
 obtain ⟨yl, hyl⟩ : ∃ yl, yl = addL r.yes f := ⟨_, rfl⟩
 rw [← hyl] at gp1 LY ⊢
 have EY := hid hyl
 have KP := hid (show ∀ x, al = some x → x.block < w.heap.size → (w1.setCell ⟨g, 14, none⟩ (.slice a1 yl.length c1)).heap[x.block]? = w.heap[x.block]? from fun x hx hlt => (heap_setCell_other _ ⟨g, 14, none⟩ _ _ (SA.out x hx).1).trans (gr1.block _ hlt (fun e => by
  cases hs : p.aY with
  | none => rw [hs] at e; simp [Value.ownBlock] at e
  | some y =>
   rw [hs] at e
   simp only [Value.ownBlock, Option.some.injEq] at e
   exact (SA.out x hx).2 y hs e.symm)))
 clear hyl ho1 gr1 hN1 cK fK
 have cK := k1.cell
 have fK := k1.free
 obtain ⟨V1, hV1⟩ : ∃ v, v = w1.setCell ⟨g, 14, none⟩ (.slice a1 yl.length c1) := ⟨_, rfl⟩
 rw [← hV1] at gp1 KP
 obtain ⟨p1, X1, col1, K1, has1, hc1, bel1, ot1⟩ := gp1
 have R1 := hid has1
 have HK1 := hid K1
 have C1 := hid hc1
 have B1 := hid bel1
 have O1 := hid ot1
 have cL := K1.cell
 rw [hV1] at cL
 clear has1 hc1 bel1 ot1 K1
 go_wp2_with fail
 rw [← hV1]
 clear hV1 cK fK cL k1
 have SL1 := hid (show SlotsAt V1 al l from fun i s hs => by
  obtain ⟨b, off, ha, hlt, c0, c1, r⟩ := SL.out i s hs
  have hbb := KP.out _ ha hlt
  exact ⟨b, off, ha, Nat.lt_of_lt_of_le hlt B1.out.size, (World.cell?_of_block (show V1.heap[(⟨b, off + i * 2, none⟩ : Addr).block]? = w.heap[(⟨b, off + i * 2, none⟩ : Addr).block]? from hbb)).trans c0, (World.cell?_of_block (show V1.heap[(⟨b, off + i * 2 + 1, none⟩ : Addr).block]? = w.heap[(⟨b, off + i * 2 + 1, none⟩ : Addr).block]? from hbb)).trans c1, r⟩)
 refine (implMergeG p1.aB al r.best l _ _ p1.cB cl _ rfl rfl HS.out.lB hl (rowC_cap R1.out.b) HCL.out R1.out.at.hB SL1.out).mono ?_
 rintro e w2 ⟨gm, rfl, hgm, ow2, hb2⟩
 have LM := mergeL_len r.best l
 have GM := mergeL_good R1.out.gd.b GS.out
 obtain ⟨best, hbest⟩ : ∃ b, b = mergeL r.best l := ⟨_, rfl⟩
 rw [← hbest] at ow2 LM GM
 rw [← LM]
 have EB := hid hbest
 have LB := hid (show best.length ≤ 1048576 by rw [LM]; have := HS.out.lB; omega)
 clear hbest LM
 have gp2 := GPost.best HG.out HK1.out C1.out R1.out hb2 hgm ow2 GM (by have := LB.out; unfold maxLen; omega)
 have k2 := HK1.out.ext hb2
 have cK := k2.cell
 have fK := k2.free
 obtain ⟨V2, hV2⟩ : ∃ v, v = w2.setCell ⟨g, 15, none⟩ (.slice (some ⟨gm, 0, none⟩) best.length best.length) := ⟨_, rfl⟩
 rw [← hV2] at gp2
 have GP2 := hid (GPost.chain B1.out O1.out gp2)
 clear gp2 ow2 GM hb2 hgm k2 R1 HK1 C1 B1 O1 SL1
 obtain ⟨p2, X2, col2, K2, has2, hc2, bel2, ot2⟩ := GP2.out
 have R2 := hid has2
 have HK2 := hid K2
 have C2 := hid hc2
 have B2 := hid bel2
 have O2 := hid ot2
 have cL := K2.cell
 rw [hV2] at cL
 clear has2 hc2 bel2 ot2 K2
 go_wp2_with fail
 rw [← hV2]
 clear hV2 cK fK cL
 have cK := HK2.out.cell
 have SR := hid (show RcSmall { r with yes := yl, best := best } from ⟨HS.out.lS, HS.out.lD, HS.out.lH, HS.out.lW, (by show yl.length ≤ 1048576; omega), LB.out, HS.out.lA, HS.out.nH, HS.out.nA⟩)
 have YL := hid (show yl.length ≤ 1048576 by omega)
 by_cases hm : r.of_ < 2 * (yl.length : Int)
 ·have u1 : decide (r.of_ < 2 * (yl.length : Int)) = true := decide_eq_true hm
  have FIN := hid (show promR r f l = leadR { r with yes := yl, best := best } (leadDs { r with yes := yl, best := best } best) by
   unfold promR
   rw [if_neg (by rw [← EY.out]; omega), EB.out]
   rfl)
  have u2 : ¬ (2 * (yl.length : Int) ≤ r.of_) := by omega
  clear LY
  go_wp2_with fail
  go_quiet (first | (go_at_call 152; exact Calls.quiet_of_same (mostOf_same _ _ _ _ _ YL.out)))
  obtain ⟨V3, hV3⟩ : ∃ v, v = V2.drewN nq := ⟨_, rfl⟩
  have E3 := hid (show Below V2.heap.size V2 V3 by rw [hV3]; exact (show Below V2.heap.size V2 (V2.drewN nq) from ⟨rfl, rfl, rfl, Nat.le_refl _, fun _ _ => rfl⟩))
  rw [← hV3]
  clear hV3 cK nq
  go_wp2_with fail
  refine (implLead B g { r with yes := yl, best := best } p2 X2 col2 V3 HG.out (HK2.out.ext E3.out) C2.out HX.out.1 HX.out.2.1 SR.out HX.out.2.2.1 (R2.out.ext E3.out)).mono ?_
  rintro e z ⟨⟨u, rfl⟩, gp⟩
  have GP := hid (GPost.chain (B2.out.trans (E3.out.mono (Nat.le_trans HG.out (Nat.le_of_lt HK2.out.lt)))) (fun b hlt hne h8 => ⟨(E3.out.block b (by have := B2.out.size; omega)).trans (O2.out b hlt hne h8).1, (O2.out b hlt hne h8).2⟩) gp)
  clear gp
  go_wp2_with fail
  first | refine bodyPost_end (results_none rfl _ _ _) rfl ?_ | refine bodyPost_ret (results_none rfl _ _ _) rfl ?_
  rw [FIN.out]
  exact ⟨⟨_, rfl⟩, GP.out⟩
 have u1 : decide (r.of_ < 2 * (yl.length : Int)) = false := decide_eq_false hm
 have FIN := hid (show promR r f l = { r with yes := yl, best := best } by
  unfold promR
  rw [if_pos (by rw [← EY.out]; omega)]
  unfold sureR
  rw [← EY.out, ← EB.out])
 have u2 : 2 * (yl.length : Int) ≤ r.of_ := by omega
 clear LY
 go_wp2_with fail
 go_quiet (first | (go_at_call 152; exact Calls.quiet_of_same (mostOf_same _ _ _ _ _ YL.out)))
 go_wp2_with fail
 first | refine bodyPost_end (results_none rfl _ _ _) rfl ?_ | refine bodyPost_ret (results_none rfl _ _ _) rfl ?_
 have E3 : Below V2.heap.size V2 (V2.drewN nq) := (show Below V2.heap.size V2 (V2.drewN nq) from ⟨rfl, rfl, rfl, Nat.le_refl _, fun _ _ => rfl⟩)
 rw [FIN.out]
 exact ⟨⟨_, rfl⟩, p2, X2, col2, HK2.out.ext E3, R2.out.ext E3, C2.out, B2.out.trans (E3.mono (Nat.le_trans HG.out (Nat.le_of_lt HK2.out.lt))), fun b hlt hne h8 => ⟨(E3.block b (by have := B2.out.size; omega)).trans (O2.out b hlt hne h8).1, (O2.out b hlt hne h8).2⟩⟩
end Go.Proofs.YtffklmlljekceaaGreat
