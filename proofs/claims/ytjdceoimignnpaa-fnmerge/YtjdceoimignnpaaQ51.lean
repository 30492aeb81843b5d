import Derived.Test.YtjdceoimignnpaaQ49
import Derived.Great.Walk
namespace Go.Proofs.Ytjdceoimignnpaa
open Go.ChangeShapes Go.WideShapes Go.ChangeAt Go.RowKit next
set_option linter.unusedVariables false
set_option linter.unusedSimpArgs false
set_option maxHeartbeats 32000000
set_option maxRecDepth 20000
variable {C : Array Value} {a b : List Sl}
theorem drawDisk (w : World) (ca : Option Addr) (n cap : Nat) (h : BytesAt w ca n) (hc : n ≤ cap) (hm : cap ≤ maxLen) (hl : ∀ x, ca = some x → x.block < w.heap.size) :
  Calls Try.prog 21 #[.slice ca n cap] w fun e w' => ∃ (x y : Int) (l : List Sl) (nl : Nat) (a' : Option Addr) (c' : Nat), e = .returned (.agg #[.int .i64 x, .int .i64 y, .slice a' nl c']) ∧ RowC w.heap.size w' (fun _ => 0) 0 43 2 a' nl c' (flat l) ∧ l.length = nl ∧ nl ≤ 100 ∧ SlOk l ∧ Below w.heap.size w w' := by
 have HL := hid hl;obtain ⟨V, hV⟩ : ∃ V, V = w.alloc (.cells #[.int .i64 0, .int .i64 0, .slice none 0 0] 25) := ⟨_, rfl⟩
 have EV := hid (show Below w.heap.size w V by rw [hV]; exact ext_alloc (Below.refl _ _) _);have Z0 := hid (show Blk V w.heap.size #[.int .i64 0, .int .i64 0, .slice none 0 0] 25 by rw [hV]; exact Blk.new _ _ _);have HO := hid (h.ext EV.out);have VS := hid (show V.heap.size = w.heap.size + 1 by rw [hV]; simp);clear hl h;go_enter Try.func21, Try.ntmps21;go_wp2_with fail;rw [← hV];clear hV;refine (openW V ca n cap HO.out hc hm).mono ?_;rintro e w1 ⟨n', rfl, ra, hb, hz⟩;have A1 := hid ra;have B1 := hid hb;have S1 := hid (show w1.heap.size = w.heap.size + 1 + 1 by rw [hz, VS.out]);obtain ⟨g, hg⟩ : ∃ g, g = V.heap.size := ⟨_, rfl⟩
 have G := hid (show g = w.heap.size + 1 by rw [hg, VS.out]);rw [← hg] at A1 ⊢;clear ra hb hz hc hm hg HO;have HC1 := hid (show ∀ x, ca = some x → x.block < w1.heap.size from fun x hx => by have := HL.out x hx; have := S1.out; omega);go_wp2_with fail;refine (disk0 w1 g ca n' cap 0 A1.out (by omega) HC1.out).mono ?_;rintro e w2 ⟨x, y, l, nl, a1, c1, p2, rfl, dk, hx, hy, hnl, hp2⟩;have D2 := hid dk;have NL := hid hnl;have HX := hid hx;have HY := hid hy;have Z2 := hid (show Blk w2 w.heap.size #[.int .i64 0, .int .i64 0, .slice none 0 0] 25 from (dk.r.w.block _ (by have := S1.out; omega) (by have := G.out; omega)).trans (Z0.out.ext B1.out));clear dk hx hy hnl A1 Z0;obtain ⟨W3, hW3⟩ : ∃ u, u = w2.alloc (.cells #[.int .i64 x, .int .i64 y, .slice a1 nl c1] 25) := ⟨_, rfl⟩
 have E3 := hid (show Below w2.heap.size w2 W3 by rw [hW3]; exact ext_alloc (Below.refl _ _) _);have K3 := hid (show Blk W3 w2.heap.size #[.int .i64 x, .int .i64 y, .slice a1 nl c1] 25 by rw [hW3]; exact Blk.new _ _ _);have D3 := hid (D2.out.ext E3.out);go_wp2_with ((with_reducible refine wpList_store_d3b #[.int .i64 x, .int .i64 y, .slice a1 nl c1] rfl ?_ ?_ ?_ ?_ ?_); (· rfl); (· rfl); (· rfl); (· simp [Value.oneCell']));rw [← hW3];clear hW3;refine (pickW W3 g ca n' cap p2 2 D3.out.r.a (by omega) (by omega) (by omega)).mono ?_;rintro e w4 ⟨b, rfl, hb, hu, ha⟩;have GG : ∀ c, w1.heap.size ≤ c → c ≠ g := fun c hc e => by have := S1.out; have := G.out; omega
 have D4 := hid (D3.out.rd hu.w ha);have k4 : Blk w4 w2.heap.size #[.int .i64 x, .int .i64 y, .slice a1 nl c1] 25 := (hu.block _ (GG _ D2.out.r.w.size)).trans K3.out;have Z4 := hid (show Blk w4 w.heap.size #[.int .i64 0, .int .i64 0, .slice none 0 0] 25 from (hu.block _ (by have := G.out; omega)).trans (Z2.out.ext E3.out));clear hu ha D3 K3 Z2 GG;by_cases hb0 : b = 0
 ·subst hb0;go_wp2_with ((with_reducible refine wpList_load_d3 w2.heap.size #[.int .i64 x, .int .i64 y, .slice a1 nl c1] rfl ?_ ?_ ?_); (· rfl); (· exact k4));clear k4;refine (spoilDisk w1.heap.size w4 g ca n' cap (p2 + 1) x y l nl a1 c1 (fun _ => 0) 0 D4.out.r.a (by omega) (fun x hx => Nat.lt_of_lt_of_le (HC1.out x hx) D4.out.r.w.size) HX.out HY.out D4.out.ln (Nat.le_trans NL.out (by omega)) D4.out.ok D4.out.row).mono ?_;rintro e w5 ⟨x5, y5, l5, n5, a5, c5, p5, rfl, dk5, hx5, hy5, hn5, hp5⟩;have D5 := hid dk5;have N5 := hid hn5;have kz : Blk w5 w.heap.size #[.int .i64 0, .int .i64 0, .slice none 0 0] 25 := (dk5.r.w.block _ (by have := D4.out.r.w.size; have := S1.out; omega) (by have := G.out; omega)).trans Z4.out;clear dk5 hx5 hy5 hn5;go_wp2_with ((with_reducible refine wpList_store_d3 w.heap.size #[.int .i64 0, .int .i64 0, .slice none 0 0] #[.int .i64 x5, .int .i64 y5, .slice a5 n5 c5] rfl rfl ?_ ?_ ?_ ?_ ?_); (· rfl); (· rfl); (· exact kz); (· simp [Value.oneCell']));have hz := setRow_heap _ w.heap.size _ #[.int .i64 x5, .int .i64 y5, .slice a5 n5 c5] _ _ kz;refine ret_cell (ty := 25) Try.results21 w.heap.size #[.int .i64 x5, .int .i64 y5, .slice a5 n5 c5] _ ?_ ?_ hz Try.underlying25 rfl (by kernel_rfl) ?_
  ·rfl
  ·rfl
  have z4 : w.heap.size + 1 + 1 ≤ w4.heap.size := by have := D4.out.r.w.size; have := S1.out; omega
  exact ⟨x5, y5, l5, n5, a5, c5, rfl, (D5.out.row.same fun z hz => setRow_other _ _ _ _ (by have := (D5.out.row.lt z hz).1; omega)).low (by omega), D5.out.ln, N5.out, D5.out.ok, below_setRow' (EV.out.trans ((B1.out.mono (by have := VS.out; omega)).trans (rd_below (D4.out.r.w.trans D5.out.r.w) (by have := G.out; omega) (by have := S1.out; omega)))) (Nat.le_refl _) _⟩
 have eb : ¬ (b : Int) = 0 := by omega
 have ub : ((b : Int) == 0) = false := by simpa using eb
 have kz := Z4.out;go_wp2_with (first | ((with_reducible refine wpList_load_d3 w2.heap.size #[.int .i64 x, .int .i64 y, .slice a1 nl c1] rfl ?_ ?_ ?_); (· rfl); (· exact k4)) | ((with_reducible refine wpList_store_d3 w.heap.size #[.int .i64 0, .int .i64 0, .slice none 0 0] #[.int .i64 x, .int .i64 y, .slice a1 nl c1] rfl rfl ?_ ?_ ?_ ?_ ?_); (· rfl); (· rfl); (· exact kz); (· simp [Value.oneCell'])));have hz := setRow_heap _ w.heap.size _ #[.int .i64 x, .int .i64 y, .slice a1 nl c1] _ _ kz;refine ret_cell (ty := 25) Try.results21 w.heap.size #[.int .i64 x, .int .i64 y, .slice a1 nl c1] _ ?_ ?_ hz Try.underlying25 rfl (by kernel_rfl) ?_
 ·rfl
 ·rfl
 have z4 : w.heap.size + 1 + 1 ≤ w4.heap.size := by have := D4.out.r.w.size; have := S1.out; omega
 exact ⟨x, y, l, nl, a1, c1, rfl, (D4.out.row.same fun z hz => setRow_other _ _ _ _ (by have := (D4.out.row.lt z hz).1; have := S1.out; omega)).low (by have := S1.out; omega), D4.out.ln, Nat.le_trans NL.out (by omega), D4.out.ok, below_setRow' (EV.out.trans ((B1.out.mono (by have := VS.out; omega)).trans (rd_below D4.out.r.w (by have := G.out; omega) (by have := S1.out; omega)))) (Nat.le_refl _) _⟩
theorem pickS_cases (a b : List Sl) (i : Nat) (h : i < max a.length b.length) : (∃ x, a[i]? = some x ∧ pickS a b i = x ∧ ∀ y, b[i]? = some y → y.1 ≤ x.1) ∨ (∃ y, b[i]? = some y ∧ pickS a b i = y ∧ ∀ x, a[i]? = some x → x.1 < y.1) := by
 unfold pickS;cases ha : a[i]? with
 | none =>
  cases hb : b[i]? with
  | none =>
   rw [List.getElem?_eq_none_iff] at ha hb;omega
  | some y => exact .inr ⟨y, rfl, rfl, fun x hx => by simp at hx⟩
 | some x =>
  cases hb : b[i]? with
  | none => exact .inl ⟨x, rfl, rfl, fun y hy => by simp at hy⟩
  | some y =>
   by_cases hlt : x.1 < y.1
   ·exact .inr ⟨y, rfl, by simp [hlt], fun z hz => by simp only [Option.some.injEq] at hz; rw [← hz]; exact hlt⟩
   ·exact .inl ⟨x, rfl, by simp [hlt], fun z hz => by simp only [Option.some.injEq] at hz; rw [← hz]; omega⟩
theorem mergeL_some {i : Nat} (h : i < max a.length b.length) : (mergeL a b)[i]? = some (pickS a b i) := by rw [mergeL_at, if_pos h]
/-- merged again with what is never greater it is the same -/
theorem merge_le {m c : List Sl} (hl : c.length ≤ m.length) (h : ∀ (i : Nat) x y, m[i]? = some x → c[i]? = some y → y.1 ≤ x.1) : mergeL m c = m := by
 refine List.ext_getElem? fun i => ?_
 rw [mergeL_at];by_cases hi : i < m.length
 ·rw [if_pos (by omega)];obtain ⟨x, hx⟩ : ∃ x, m[i]? = some x := ⟨_, List.getElem?_eq_getElem hi⟩
  rcases pickS_cases m c i (by omega) with ⟨z, hz, e, _⟩ | ⟨z, hz, e, hk⟩
  ·rw [e, hz]
  ·have h1 := hk x hx;have h2 := h i x z hx hz;omega
 ·rw [if_neg (by omega), List.getElem?_eq_none (by omega)]
theorem merge_ge1 (i : Nat) (x y : Sl) (hx : (mergeL a b)[i]? = some x) (hy : a[i]? = some y) : y.1 ≤ x.1 := by
 have hi := (List.getElem?_eq_some_iff.1 hx).1;rw [mergeL_len] at hi;rw [mergeL_some hi] at hx;simp only [Option.some.injEq] at hx;rcases pickS_cases a b i hi with ⟨z, hz, e, _⟩ | ⟨z, hz, e, hk⟩
 ·rw [hz] at hy; simp only [Option.some.injEq] at hy; rw [← hx, e, hy]; exact Int.le_refl _
 ·have := hk y hy; rw [← hx, e]; omega
theorem merge_ge2 (i : Nat) (x y : Sl) (hx : (mergeL a b)[i]? = some x) (hy : b[i]? = some y) : y.1 ≤ x.1 := by
 have hi := (List.getElem?_eq_some_iff.1 hx).1;rw [mergeL_len] at hi;rw [mergeL_some hi] at hx;simp only [Option.some.injEq] at hx;rcases pickS_cases a b i hi with ⟨z, hz, e, hk⟩ | ⟨z, hz, e, _⟩
 ·have := hk y hy; rw [← hx, e]; omega
 ·rw [hz] at hy; simp only [Option.some.injEq] at hy; rw [← hx, e, hy]; exact Int.le_refl _
theorem merge_a (a b : List Sl) : mergeL (mergeL a b) a = mergeL a b := merge_le (by rw [mergeL_len]; omega) fun i x y hx hy => merge_ge1 i x y hx hy
theorem merge_b (a b : List Sl) : mergeL (mergeL a b) b = mergeL a b := merge_le (by rw [mergeL_len]; omega) fun i x y hx hy => merge_ge2 i x y hx hy
theorem next_fact {a n o : Int} (h : nextB a n o ≠ 0) : a < nextB a n o ∧ nextB a n o ≤ a + o ∧ (nextB a n o - n).tmod o = 0 ∧ 1 ≤ o ∧ o ≤ 5 ∧ 1 ≤ n ∧ n ≤ 5 ∧ 0 ≤ a ∧ a ≤ 1000000 := by
 unfold nextB at h ⊢;split at h
 ·rename_i g;split at h
  ·exact absurd rfl h
  ·rename_i g2;rw [if_pos g, if_neg g2];unfold askB at g;simp only [Bool.and_eq_true, inB_iff] at g;clear h g2;obtain ⟨⟨o1, o5⟩, ⟨n1, n2⟩, a0, a1⟩ := g;have h5 : o = 1 ∨ o = 2 ∨ o = 3 ∨ o = 4 ∨ o = 5 := by omega
   have key : ∀ q : Int, a.tdiv o = q → 0 ≤ q → o * q ≤ a → a < o * q + o → a < nextN a n o ∧ nextN a n o ≤ a + o ∧ (nextN a n o - n).tmod o = 0 ∧ 1 ≤ o ∧ o ≤ 5 ∧ 1 ≤ n ∧ n ≤ 5 ∧ 0 ≤ a ∧ a ≤ 1000000 := fun q hq q0 q1 q2 => by
    unfold nextN;rw [hq, Int.mul_comm q o];split
    ·refine ⟨by omega, by omega, ?_, o1, o5, n1, by omega, a0, a1⟩;rw [show o * q + n + o - n = o * (q + 1) by rw [Int.mul_add]; omega, Int.mul_tmod_right]
    ·refine ⟨by omega, by omega, ?_, o1, o5, n1, by omega, a0, a1⟩;rw [show o * q + n - n = o * q by omega, Int.mul_tmod_right]
   refine key (a / o) (Int.tdiv_eq_ediv_of_nonneg a0) (Int.ediv_nonneg a0 (by omega)) (Int.mul_ediv_self_le (by omega)) ?_;have := Int.lt_mul_ediv_self_add (x := a) (k := o) (by omega);omega
 ·exact absurd rfl h
theorem wSlots_same (a1 a2 : Option Addr) (l : List Sl) (n cap1 cap2 : Nat) (w : World) (hn : l.length = n) (hc : n ≤ maxLen) (h1 : SlotsAt w a1 l) (h2 : SlotsAt w a2 l) :
  Calls Try.prog 16 #[.slice a1 n cap1, .slice a2 n cap2] w fun e w' => e = .returned (.bool true) ∧ Below w.heap.size w w' := by
 unfold maxLen at hc;have HL : Hid (l.length = n) := hn;clear hn;go_enter Try.func16, Try.ntmps16;go_wp2;go_loopw [5] (fun i wr => ∃ (k : Nat), k ≤ n ∧ i = .int .i64 k ∧ Below w.heap.size w wr) (fun i _ => n - (intOf i).toNat);case atStart => exact ⟨0, Nat.zero_le _, rfl, Below.refl _ _⟩
 obtain ⟨k, hk, rfl, hbel⟩ := hrel;by_cases hlt : k < n
 ·obtain ⟨s, hs⟩ : ∃ s, l[k]? = some s := ⟨_, List.getElem?_eq_getElem (by rw [HL.out]; exact hlt)⟩
  obtain ⟨b, off, rfl, hb, c0, c1, _⟩ := (h1.ext hbel) k s hs;obtain ⟨b2, off2, rfl, hb2, d0, d1, _⟩ := (h2.ext hbel) k s hs;clear hs h1 h2;have e1 : (0 : Int) ≤ (k : Int) := by omega
  have e2 : (k : Int) < (n : Int) := by omega
  go_wp2_with fail
  go_region_held3 (fun w' => w'.cell? ⟨b, off + k * 2, none⟩ = some (.int .i64 s.1) ∧ w'.cell? ⟨b, off + k * 2 + 1, none⟩ = some (.string s.2) ∧ w'.cell? ⟨b2, off2 + k * 2, none⟩ = some (.int .i64 s.1) ∧ w'.cell? ⟨b2, off2 + k * 2 + 1, none⟩ = some (.string s.2)) (go_keep) (fail)
  go_wp2;go_roundw;case rel => exact ⟨k + 1, by omega, by go_num, hbel.drew⟩
  case measure => simp [intOf]; omega
 go_wp2;go_ret;exact ⟨rfl, hbel⟩
theorem zero_size : Try.zeroCells83.size = 121 := by kernel_rfl
theorem zero_one : Try.zeroCells83.all (·.oneCell') = true := by kernel_rfl
theorem pageSize {n : Nat} (h : n = 121) : (Try.prog.info? 83).map (·.size) = some n := by rw [h]; kernel_rfl
theorem wpList_load_page {ops : Array Oper} {rest : List Oper} {dst : Option Tmp} {x : Operand} {τ : TypeId} {pos : String} {after : Array Edge} {a : Act} {w : World} {Q : Exit → Act → World → Prop}
  (g : Nat) (cs : Array Value) (hs : cs.size = 121) (hx : a.eval x = .pointer (some ⟨g, 0, none⟩)) (hg : Blk w g cs 83)
  (h : wpList Try.prog ops Q rest (a.put dst (.agg cs)) w) :
  wpList Try.prog ops Q ({ dst := dst, op := .load 83 x, type := τ, pos := pos, after := after, guard := none } :: rest) a w :=
 wpList_load_blk g cs _ hx hg Try.underlying83 rfl (pageSize hs) h
theorem wpList_store_page {ops : Array Oper} {rest : List Oper} {dst : Option Tmp} {x y : Operand} {τ : TypeId} {pos : String} {after : Array Edge} {a : Act} {w0 : World} {c : Array Value} {Q : Exit → Act → World → Prop}
  (cells : Array Value) (hs : cells.size = 121) (hx : a.eval x = .pointer (some ⟨w0.heap.size, 0, none⟩)) (hy : a.eval y = .agg cells) (hc : c.size = 121) (h1 : cells.all (·.oneCell') = true)
  (h : wpList Try.prog ops Q rest (a.put dst undef) (w0.alloc (.cells cells 83))) :
  wpList Try.prog ops Q ({ dst := dst, op := .store 83 x y, type := τ, pos := pos, after := after, guard := none } :: rest) a (w0.alloc (.cells c 83)) :=
 wpList_store_last cells hx hy (pageSize hs) (by rw [hc, hs]) h1 h
theorem wpList_store_page_at {ops : Array Oper} {rest : List Oper} {dst : Option Tmp} {x y : Operand} {τ : TypeId} {pos : String} {after : Array Edge} {a : Act} {w : World} {Q : Exit → Act → World → Prop}
  (g : Nat) (old cells : Array Value) (hs : cells.size = 121) (ho : old.size = 121) (hx : a.eval x = .pointer (some ⟨g, 0, none⟩)) (hy : a.eval y = .agg cells) (hg : Blk w g old 83) (h1 : cells.all (·.oneCell') = true)
  (h : wpList Try.prog ops Q rest (a.put dst undef) (w.setRow g cells)) :
  wpList Try.prog ops Q ({ dst := dst, op := .store 83 x y, type := τ, pos := pos, after := after, guard := none } :: rest) a w :=
 wpList_store_row (o := { dst := dst, op := .store 83 x y, type := τ, pos := pos, after := after, guard := none }) rfl 83 x y rfl g cells hx hy 83 old hg (pageSize hs) (by rw [ho, hs]) h1 h
theorem run_copy_slots (w : World) (ty : TypeId) (g o dLen dCap : Nat) (a : Addr) (sLen sCap : Nat) (cur : Array Value) (t : TypeId) (l : List Sl)
  (hg : w.heap[g]? = some (.cells cur t (0, 0))) (hm : l.length = Nat.min sLen dLen)
  (hsrc : ∀ j v, (flat l)[j]? = some v → w.cell? (a.add j) = some v) (hfit : o + (flat l).length ≤ cur.size) :
  (Builtin.copy_ #[23, 23] ty #[.slice (some ⟨g, o, none⟩) dLen dCap, .slice (some a) sLen sCap]).run Try.prog w =
   .ok (goInt l.length) (w.setRow g (cur.toList.take o ++ flat l ++ cur.toList.drop (o + (flat l).length)).toArray) := by
 have hl := run_loadCells_list (P := Try.prog) w a (flat l) hsrc;have hst := run_storeCells_at Try.prog g o t (flat l) 0 cur w hg (by simpa using hfit) (flat_one l);obtain ⟨i, h1, h2, h3, h4⟩ := slotInfo;have hn : l.length * 2 = (flat l).length := (flat_len l).symm;simp [Builtin.copy_, run_underlying Try.underlying23, Builtin.lenOf, Builtin.firstCells, sizeOf, typeInfo, h1, h3, ← hm, hn, hl, hst]
theorem step_copy_slots {ops : Array Oper} {o : Oper} {a : Act} {w : World} {K : Act → World → Prop} {Q : Exit → Act → World → Prop} {E : Prop} (hgd : o.guard = none) (d s : Operand)
  (ho : o.op = .call { callee := .builtin .copy, args := #[d, s], argTypes := #[23, 23] }) (g off dLen dCap : Nat) (ad : Addr) (sLen sCap : Nat) (hd : a.eval d = .slice (some ⟨g, off, none⟩) dLen dCap) (hs : a.eval s = .slice (some ad) sLen sCap)
  (cur : Array Value) (t : TypeId) (l : List Sl) (hg : Blk w g cur t) (hm : l.length = Nat.min sLen dLen) (hsrc : ∀ j v, (flat l)[j]? = some v → w.cell? (ad.add j) = some v) (hfit : off + (flat l).length ≤ cur.size)
  (h : ∀ w' C, Hid (C = (cur.toList.take off ++ flat l ++ cur.toList.drop (off + (flat l).length)).toArray) → Hid (Blk w' g C t) → Hid (Below g w w') → K (a.put o.dst (goInt l.length)) w') :
  if Region.wanted o (yielded ops a.tmps) = true then Oper.wp Try.prog o a w K Q else E := by
 have hw : Region.wanted o (yielded ops a.tmps) = true := by simp [Region.wanted, hgd]
 rw [if_pos hw];have hrun := run_copy_slots w o.type g off dLen dCap ad sLen sCap cur t l hg hm hsrc hfit;unfold Oper.wp;simp only [execOp, ho, resolve, invoke, builtin, Sem.run_bind, Sem.run_pure, Result.andThen_ok, List.map_toArray, List.map_cons, List.map_nil, hd, hs, hrun];exact h _ _ rfl (setRow_heap w g cur _ t _ hg) ⟨rfl, rfl, rfl, by simp, fun k hk => setRow_other w g k _ (by omega)⟩
structure PageC (C : Array Value) (l : List Sl) : Prop where
 size : C.size = 121
 len : l.length ≤ 60
 at' : ∀ (i : Nat) s, l[i]? = some s → C[i * 2]? = some (.int .i64 s.1) ∧ C[i * 2 + 1]? = some (.string s.2)
 one : C.all (·.oneCell') = true
structure PageOk (C : Array Value) (l : List Sl) : Prop extends PageC C l where
 used : C[120]? = some (.int .i64 l.length)
theorem all_one_of (h : ∀ (j : Nat) v, C[j]? = some v → v.oneCell' = true) : C.all (·.oneCell') = true := by
 rw [Array.all_eq_true_iff_forall_mem];intro x hx;obtain ⟨j, hj, rfl⟩ := Array.getElem_of_mem hx;exact h j _ (Array.getElem?_eq_getElem hj)
theorem one_of_all (h : C.all (·.oneCell') = true) (j : Nat) (v : Value) (hv : C[j]? = some v) : v.oneCell' = true := by
 rw [Array.all_eq_true_iff_forall_mem] at h;exact h v (Array.mem_of_getElem? hv)
theorem one_set (h : C.all (·.oneCell') = true) (k : Nat) {v : Value} (hv : v.oneCell' = true) : (C.setIfInBounds k v).all (·.oneCell') = true := all_one_of fun j u hu => by
 rw [Array.getElem?_setIfInBounds] at hu;split at hu
 ·split at hu
  ·simp only [Option.some.injEq] at hu; rw [← hu]; exact hv
  simp at hu
 exact one_of_all h j u hu
theorem page_copied (l : List Sl) (hl : l.length ≤ 60) : PageOk ((Try.zeroCells83.toList.take 0 ++ flat l ++ Try.zeroCells83.toList.drop (0 + (flat l).length)).toArray.setIfInBounds 120 (.int .i64 l.length)) l := by
 have hz := zero_size;have hf := flat_len l;have hsz : (Try.zeroCells83.toList.take 0 ++ flat l ++ Try.zeroCells83.toList.drop (0 + (flat l).length)).toArray.size = 121 := by
  simp only [List.take_zero, List.nil_append, List.size_toArray, List.length_append, List.length_drop, Array.length_toList];omega
 refine ⟨⟨by rw [Array.size_setIfInBounds]; exact hsz, hl, fun i s hs => ?_, one_set (all_one_of fun j v hv => ?_) 120 rfl⟩, ?_⟩
 ·have hi : i < l.length := (List.getElem?_eq_some_iff.1 hs).1;have := flat_at l i s hs;rw [Array.getElem?_setIfInBounds_ne (by omega), Array.getElem?_setIfInBounds_ne (by omega), List.getElem?_toArray, List.getElem?_toArray, List.take_zero, List.nil_append, List.getElem?_append_left (by omega), List.getElem?_append_left (by omega)];exact this
 ·have hm := List.mem_of_getElem? (by rw [List.getElem?_toArray] at hv; exact hv);simp only [List.take_zero, List.nil_append, List.mem_append] at hm;rcases hm with hm | hm
  ·exact flat_one l v hm
  have h9 := zero_one;rw [Array.all_eq_true_iff_forall_mem] at h9;exact h9 v (by simpa using List.mem_of_mem_drop hm)
 rw [Array.getElem?_setIfInBounds_self_of_lt (by rw [hsz]; omega)]
theorem page_zero : PageOk Try.zeroCells83 [] := by
 refine ⟨⟨zero_size, by simp, fun i s hs => by simp at hs, zero_one⟩, by kernel_rfl⟩
end Go.Proofs.Ytjdceoimignnpaa
