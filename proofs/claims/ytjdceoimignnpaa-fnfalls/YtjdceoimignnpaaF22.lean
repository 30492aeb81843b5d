import Derived.Test.YtjdceoimignnpaaF21
namespace Go.Proofs.Ytjdceoimignnpaa
open Go.ChangeShapes Go.WideShapes Go.ChangeAt Go.RowKit
set_option linter.unusedVariables false
set_option linter.unusedSimpArgs false
set_option maxHeartbeats 16000000
set_option maxRecDepth 20000
variable {high : Int} {l : List Int} {r : Rc}
theorem Fb (B : Nat) (r : Rc) (p : fU) (X : iU) (col : Nat → Nat) (mf mt mb mi mn : Int) (mx : ByteArray) (mv : Value) (w : World) (hB : B ≤ w.heap.size) (hk0 : 0 ≤ r.dk) (hk1 : r.dk ≤ r.ds.length) (hw : r.wish.length ≤ 1048576) (ht : mx.size ≤ 1048576) (h : aG B w r p X col) :
  Calls Try.prog 109 #[.agg (au r p), .agg (bU ⟨8, mf, mt, mb, mi, mn, mx⟩ mv)] w (jH B w col (iC r mx)) := by
 have HB := hid hB;have H8 := hid (show 0 ≤ r.dk ∧ r.dk ≤ r.ds.length ∧ r.wish.length ≤ 1048576 ∧ mx.size ≤ 1048576 from ⟨hk0, hk1, hw, ht⟩);clear hk0 hk1 hw ht;have FIN := hid (show iC r mx = iC r mx from rfl);obtain ⟨V, hV⟩ : ∃ V, V = ((w.alloc (.cells (au r p) 31)).alloc (.cells (bU ⟨8, mf, mt, mb, mi, mn, mx⟩ mv) 49)).alloc (.cells bP 31) := ⟨_, rfl⟩
 have S0 := hid (show BS B w col ⟨8, mf, mt, mb, mi, mn, mx⟩ mv r p X (dm w.heap.size col) V by rw [hV]; exact BS.start h hB);have BZ := hid (show B ≤ V.heap.size from Nat.le_trans HB.out (by have := S0.out.z.lt; omega));clear h hB;have cK := S0.out.k.cell;have cM := S0.out.ms.cell;have k1 := S0.out.k;have k2 := S0.out.z;rw [hV] at cK cM k1 k2;go_enter Try.func109, Try.ntmps109
 go_wp2_with (first
  | ((with_reducible refine ah w.heap.size (au r p) rfl ?_ ?_ ?_); rfl; exact k1))
 rw [← hV];clear hV cK cM k1 k2;refine (Es B r p X _ mx _ BZ.out H8.out.1 H8.out.2.1 H8.out.2.2.1 H8.out.2.2.2 S0.out.has).mono ?_;obtain ⟨r1, hr1⟩ : ∃ r1, r1 = iC r mx := ⟨_, rfl⟩
 rw [← hr1];have FIN := hid hr1.symm;clear hr1;rintro e w1 ⟨p1, X1, c1, rfl, has1, hb1, ot1⟩;obtain ⟨_, _, z1, _⟩ := S0.out.call has1 hb1 ot1;have OUT := hid (S0.out.out HB.out has1 hb1 ot1);clear has1 hb1 ot1;go_wp2_with ((with_reducible refine af (w.heap.size + 1 + 1) bP (au r1 p1) rfl rfl ?_ ?_ ?_ ?_ ?_); rfl; rfl; exact z1; simp [Value.oneCell']);have hz := setRow_heap _ (w.heap.size + 1 + 1) _ (au r1 p1) _ _ z1;refine az (ty := 31) Try.results109 (w.heap.size + 1 + 1) (au r1 p1) _ ?_ ?_ hz Try.underlying31 rfl (by kernel_rfl) ?_
 ·rfl
 ·rfl
 rw [FIN.out];exact OUT.out
def iI (r : Rc) (b : Int) : Rc := if r.ball < b ∧ (r.lead || r.tr) = true then kF (aU r) b else r
theorem BS.Lr {B : Nat} {w : World} {col : Nat → Nat} {m : gq} {mv : Value} {p : fU} {X : iU} {c' : Nat → Nat} {v : World} (h : BS B w col m mv r p X c' v) (hB : B ≤ w.heap.size) (d : Int) : BS B w col m mv { r with dp := d } p X c' (v.setCell ⟨w.heap.size, 6, none⟩ (.int .i64 d)) :=
 ⟨by have := h.k.set (o := 6) (.int .i64 d); simpa using this, h.ms.setCell (by simp) _, h.z.setCell (by simp; omega) _, (h.has.like (r' := { r with dp := d }) rfl rfl rfl rfl rfl rfl rfl).setCell (q := ⟨w.heap.size, 6, none⟩) h.c0 _, h.c0, h.c1, h.c2, bG h.bel hB _, fun b hb h8 => ⟨(heap_setCell_other _ ⟨w.heap.size, 6, none⟩ b _ (by simp; omega)).trans (h.oth b hb h8).1, (h.oth b hb h8).2⟩⟩
theorem EP (B : Nat) (r : Rc) (p : fU) (X : iU) (col : Nat → Nat) (mf mt mb mi mn : Int) (mx : ByteArray) (mv : Value) (w : World) (hB : B ≤ w.heap.size) (hS : bD r) (h : aG B w r p X col) :
  Calls Try.prog 109 #[.agg (au r p), .agg (bU ⟨9, mf, mt, mb, mi, mn, mx⟩ mv)] w (jH B w col (iI r mb)) := by
 have HB := hid hB;clear hS;obtain ⟨V, hV⟩ : ∃ V, V = ((w.alloc (.cells (au r p) 31)).alloc (.cells (bU ⟨9, mf, mt, mb, mi, mn, mx⟩ mv) 49)).alloc (.cells bP 31) := ⟨_, rfl⟩
 have S0 := hid (show BS B w col ⟨9, mf, mt, mb, mi, mn, mx⟩ mv r p X (dm w.heap.size col) V by rw [hV]; exact BS.start h hB);have BZ := hid (show B ≤ V.heap.size from Nat.le_trans HB.out (by have := S0.out.z.lt; omega));clear h hB;have cK := S0.out.k.cell;have cM := S0.out.ms.cell;have k1 := S0.out.k;have k2 := S0.out.z;rw [hV] at cK cM k1 k2;by_cases g1 : r.ball < mb
 ·have u1 : decide (r.ball < mb) = true := decide_eq_true g1;cases hl : r.lead
  ·cases ht : r.tr
   ·have FIN := hid (show iI r mb = r by unfold iI; rw [if_neg (by rw [hl, ht]; simp)]);go_enter Try.func109, Try.ntmps109
    go_wp2_with (first
     | ((with_reducible refine ah w.heap.size (au r p) rfl ?_ ?_ ?_); rfl; exact k1)
     | ((with_reducible refine af (w.heap.size + 1 + 1) bP (au r p) rfl rfl ?_ ?_ ?_ ?_ ?_); rfl; rfl; exact k2; simp [Value.oneCell']))
    have hz := setRow_heap _ (w.heap.size + 1 + 1) _ (au r p) _ _ k2;refine az (ty := 31) Try.results109 (w.heap.size + 1 + 1) (au r p) _ ?_ ?_ hz Try.underlying31 rfl (by kernel_rfl) ?_
    ·rfl
    ·rfl
    rw [FIN.out, ← hV];exact S0.out.same HB.out
   skip
   have FIN := hid (show iI r mb = kF (aU r) mb by unfold iI; rw [if_pos ⟨g1, by rw [hl, ht]; rfl⟩]);go_enter Try.func109, Try.ntmps109
   go_wp2_with (first
    | ((with_reducible refine ah w.heap.size (au r p) rfl ?_ ?_ ?_); rfl; exact k1))
   rw [← hV];clear hV cK cM k1 k2;refine (qA B r p X _ _ BZ.out S0.out.has).mono ?_;obtain ⟨r1, hr1⟩ : ∃ x, x = aU r := ⟨_, rfl⟩
   rw [← hr1];have ER1 := hid hr1;clear hr1;rintro e w1 ⟨p1, X1, c1, rfl, has1, hb1, ot1⟩;obtain ⟨kk, _, _, _⟩ := S0.out.call has1 hb1 ot1;have SN1 := hid (S0.out.next HB.out has1 hb1 ot1);clear has1 hb1 ot1;obtain ⟨W1, hW1⟩ : ∃ v, v = w1.setRow w.heap.size (au r1 p1) := ⟨_, rfl⟩
   rw [← hW1] at SN1;have cK := SN1.out.k.cell;have fK := SN1.out.k.free;have cM := SN1.out.ms.cell;have k1 := SN1.out.k;have k2 := SN1.out.z;have BZ1 := hid (show B ≤ W1.heap.size from Nat.le_trans HB.out (by have := k2.lt; omega));rw [hW1] at cK fK cM k1 k2;by_cases g2 : r1.dp < mb
   ·have u2 : decide (r1.dp < mb) = true := decide_eq_true g2;have NP := hid (SN1.out.Lr HB.out mb);have FI2 := hid (show iI r mb = { r1 with dp := mb } by rw [FIN.out, ← ER1.out]; exact ru g2);have k3 := NP.out.k;have k4 := NP.out.z;rw [hW1] at k3 k4
    go_wp2_with (first
     | ((with_reducible refine af w.heap.size (au r p) (au r1 p1) rfl rfl ?_ ?_ ?_ ?_ ?_); rfl; rfl; exact kk; simp [Value.oneCell'])
     | ((with_reducible refine ah w.heap.size (au { r1 with dp := mb } p1) rfl ?_ ?_ ?_); rfl; exact k3)
     | ((with_reducible refine af (w.heap.size + 1 + 1) bP (au { r1 with dp := mb } p1) rfl rfl ?_ ?_ ?_ ?_ ?_); rfl; rfl; exact k4; simp [Value.oneCell']))
    have hz := setRow_heap _ (w.heap.size + 1 + 1) _ (au { r1 with dp := mb } p1) _ _ k4;refine az (ty := 31) Try.results109 (w.heap.size + 1 + 1) (au { r1 with dp := mb } p1) _ ?_ ?_ hz Try.underlying31 rfl (by kernel_rfl) ?_
    ·rfl
    ·rfl
    rw [FI2.out, ← hW1];exact NP.out.same HB.out
   have u2 : decide (r1.dp < mb) = false := decide_eq_false g2;have FI2 := hid (show iI r mb = r1 by rw [FIN.out, ← ER1.out]; exact tq g2);have k3 := SN1.out.k;have k4 := SN1.out.z;rw [hW1] at k3 k4
   go_wp2_with (first
    | ((with_reducible refine af w.heap.size (au r p) (au r1 p1) rfl rfl ?_ ?_ ?_ ?_ ?_); rfl; rfl; exact kk; simp [Value.oneCell'])
    | ((with_reducible refine ah w.heap.size (au r1 p1) rfl ?_ ?_ ?_); rfl; exact k3)
    | ((with_reducible refine af (w.heap.size + 1 + 1) bP (au r1 p1) rfl rfl ?_ ?_ ?_ ?_ ?_); rfl; rfl; exact k4; simp [Value.oneCell']))
   have hz := setRow_heap _ (w.heap.size + 1 + 1) _ (au r1 p1) _ _ k4;refine az (ty := 31) Try.results109 (w.heap.size + 1 + 1) (au r1 p1) _ ?_ ?_ hz Try.underlying31 rfl (by kernel_rfl) ?_
   ·rfl
   ·rfl
   rw [FI2.out, ← hW1];exact SN1.out.same HB.out
  skip
  have FIN := hid (show iI r mb = kF (aU r) mb by unfold iI; rw [if_pos ⟨g1, by rw [hl]; rfl⟩]);go_enter Try.func109, Try.ntmps109
  go_wp2_with (first
   | ((with_reducible refine ah w.heap.size (au r p) rfl ?_ ?_ ?_); rfl; exact k1))
  rw [← hV];clear hV cK cM k1 k2;refine (qA B r p X _ _ BZ.out S0.out.has).mono ?_;obtain ⟨r1, hr1⟩ : ∃ x, x = aU r := ⟨_, rfl⟩
  rw [← hr1];have ER1 := hid hr1;clear hr1;rintro e w1 ⟨p1, X1, c1, rfl, has1, hb1, ot1⟩;obtain ⟨kk, _, _, _⟩ := S0.out.call has1 hb1 ot1;have SN1 := hid (S0.out.next HB.out has1 hb1 ot1);clear has1 hb1 ot1;obtain ⟨W1, hW1⟩ : ∃ v, v = w1.setRow w.heap.size (au r1 p1) := ⟨_, rfl⟩
  rw [← hW1] at SN1;have cK := SN1.out.k.cell;have fK := SN1.out.k.free;have cM := SN1.out.ms.cell;have k1 := SN1.out.k;have k2 := SN1.out.z;have BZ1 := hid (show B ≤ W1.heap.size from Nat.le_trans HB.out (by have := k2.lt; omega));rw [hW1] at cK fK cM k1 k2;by_cases g2 : r1.dp < mb
  ·have u2 : decide (r1.dp < mb) = true := decide_eq_true g2;have NP := hid (SN1.out.Lr HB.out mb);have FI2 := hid (show iI r mb = { r1 with dp := mb } by rw [FIN.out, ← ER1.out]; exact ru g2);have k3 := NP.out.k;have k4 := NP.out.z;rw [hW1] at k3 k4
   go_wp2_with (first
    | ((with_reducible refine af w.heap.size (au r p) (au r1 p1) rfl rfl ?_ ?_ ?_ ?_ ?_); rfl; rfl; exact kk; simp [Value.oneCell'])
    | ((with_reducible refine ah w.heap.size (au { r1 with dp := mb } p1) rfl ?_ ?_ ?_); rfl; exact k3)
    | ((with_reducible refine af (w.heap.size + 1 + 1) bP (au { r1 with dp := mb } p1) rfl rfl ?_ ?_ ?_ ?_ ?_); rfl; rfl; exact k4; simp [Value.oneCell']))
   have hz := setRow_heap _ (w.heap.size + 1 + 1) _ (au { r1 with dp := mb } p1) _ _ k4;refine az (ty := 31) Try.results109 (w.heap.size + 1 + 1) (au { r1 with dp := mb } p1) _ ?_ ?_ hz Try.underlying31 rfl (by kernel_rfl) ?_
   ·rfl
   ·rfl
   rw [FI2.out, ← hW1];exact NP.out.same HB.out
  have u2 : decide (r1.dp < mb) = false := decide_eq_false g2;have FI2 := hid (show iI r mb = r1 by rw [FIN.out, ← ER1.out]; exact tq g2);have k3 := SN1.out.k;have k4 := SN1.out.z;rw [hW1] at k3 k4
  go_wp2_with (first
   | ((with_reducible refine af w.heap.size (au r p) (au r1 p1) rfl rfl ?_ ?_ ?_ ?_ ?_); rfl; rfl; exact kk; simp [Value.oneCell'])
   | ((with_reducible refine ah w.heap.size (au r1 p1) rfl ?_ ?_ ?_); rfl; exact k3)
   | ((with_reducible refine af (w.heap.size + 1 + 1) bP (au r1 p1) rfl rfl ?_ ?_ ?_ ?_ ?_); rfl; rfl; exact k4; simp [Value.oneCell']))
  have hz := setRow_heap _ (w.heap.size + 1 + 1) _ (au r1 p1) _ _ k4;refine az (ty := 31) Try.results109 (w.heap.size + 1 + 1) (au r1 p1) _ ?_ ?_ hz Try.underlying31 rfl (by kernel_rfl) ?_
  ·rfl
  ·rfl
  rw [FI2.out, ← hW1];exact SN1.out.same HB.out
 have u1 : decide (r.ball < mb) = false := decide_eq_false g1;have FIN := hid (show iI r mb = r by unfold iI; rw [if_neg (fun q => g1 q.1)]);go_enter Try.func109, Try.ntmps109
 go_wp2_with (first
  | ((with_reducible refine ah w.heap.size (au r p) rfl ?_ ?_ ?_); rfl; exact k1)
  | ((with_reducible refine af (w.heap.size + 1 + 1) bP (au r p) rfl rfl ?_ ?_ ?_ ?_ ?_); rfl; rfl; exact k2; simp [Value.oneCell']))
 have hz := setRow_heap _ (w.heap.size + 1 + 1) _ (au r p) _ _ k2;refine az (ty := 31) Try.results109 (w.heap.size + 1 + 1) (au r p) _ ?_ ?_ hz Try.underlying31 rfl (by kernel_rfl) ?_
 ·rfl
 ·rfl
 rw [FIN.out, ← hV];exact S0.out.same HB.out
theorem ku {z : Int} (h0 : 0 ≤ z) (h1 : z ≤ 1000000) : ny z := by
 have a : IntKind.i64.min = -9223372036854775808 := by rfl
 have b : IntKind.i64.max = 9223372036854775807 := by rfl
 unfold ny;simp [Lit.wf, a, b];omega
structure xC (r : Rc) : Prop where
 d0 : 0 ≤ r.dk
 d1 : r.dk ≤ r.ds.length
 sm : bD r
 ye : r.yes.length ≤ 100000
 ba : ny r.ball
 a1 : r.acks.length ≤ 100000
 a2 : ∀ (j : Nat) a, r.acks[j]? = some a → a.2.length ≤ 100000
theorem I5 (h : dh high l = true) : ∀ (i : Nat), i < l.length → ((i : Int) + 1 ≤ l.getD i 0 ∧ l.getD i 0 ≤ high) := by
 intro i;induction i with
 | zero =>
  intro hi;have h0 := List.all_eq_true.1 h 0 (List.mem_range.2 hi);simp only [dX, Bool.and_eq_true, bK] at h0;exact ⟨by have := h0.1.1; omega, h0.1.2⟩
 | succ i ih =>
  intro hi;have h0 := List.all_eq_true.1 h (i + 1) (List.mem_range.2 hi);simp only [dX, Bool.and_eq_true, bK, Bool.or_eq_true, decide_eq_true_eq, Nat.add_sub_cancel] at h0;have h1 := (ih (by omega)).1;refine ⟨?_, h0.1.2⟩;rcases h0.2 with h2 | h2
  ·omega
  have h3 : (((i + 1 : Nat) : Int)) = (i : Int) + 1 := by omega
  rw [h3];omega
theorem lq (h : dh high l = true) (h0 : 0 ≤ high) : (l.length : Int) ≤ high := by
 rcases Nat.eq_zero_or_pos l.length with e | e
 ·omega
 have := I5 h (l.length - 1) (by omega);omega
theorem pJ (h : bf r = true) (hS : bD r) : xC r := by
 have hk := qG h;unfold bf at h;simp only [Bool.and_eq_true] at h;obtain ⟨⟨⟨⟨⟨⟨⟨⟨⟨⟨⟨⟨h1, h2⟩, h3⟩, h4⟩, h5⟩, h6⟩, h7⟩, h8⟩, h9⟩, h10⟩, h11⟩, h12⟩, h13⟩ := h;have o1 := bK.1 h1;have dp : r.dp ≤ 1000000 := by
  simp only [bW, Bool.and_eq_true] at h4;exact (bK.1 h4.1.1.1).2
 have hy := lq h8 (by omega);have hac := h10;simp only [dZ, Bool.and_eq_true] at hac;have ha := lq hac.1 (by omega);rw [oq] at ha;have hball : 0 ≤ r.ball ∧ r.ball ≤ 1000000 := by
  unfold gU at h12;split at h12
  ·simp only [uB, Bool.and_eq_true] at h12;have := bK.1 h12.1.1;omega
  split at h12
  ·simp only [zD, Bool.and_eq_true] at h12;have := bK.1 h12.1;omega
  simp only [rH, Bool.and_eq_true, decide_eq_true_eq] at h12;omega
 refine ⟨hk.1, hk.2.1, hS, by omega, ku hball.1 hball.2, by omega, fun j a hj => ?_⟩;have := List.all_eq_true.1 hac.2 a (List.mem_of_getElem? hj);have := lq this (by omega);omega
def tV (r : Rc) (m : gq) (l : List Sl) : Rc :=
 if m.k = 1 then rO r m else if m.k = 2 then qB r m.f m.b l else if m.k = 3 then iE r m else if m.k = 4 then uN r m.f m.b m.i else if m.k = 5 then tX r m else if m.k = 6 then jr r m.b m.i m.x else if m.k = 7 then jP m.f 5 m.i r else if m.k = 8 then iC r m.x else iI r m.b
theorem Gt (B : Nat) (r : Rc) (p : fU) (X : iU) (col : Nat → Nat) (m : gq) (al : Option Addr) (l : List Sl) (cl : Nat) (of_ : Int) (w : World) (hB : B ≤ w.heap.size) (hr : xC r) (hof : of_ ≤ 5) (hm : bY m of_ l = true) (hsl : cO w al l) (h : aG B w r p X col) :
  Calls Try.prog 109 #[.agg (au r p), .agg (bU m (.slice al l.length cl))] w (jH B w col (tV r m l)) := by
 simp only [bY, Bool.and_eq_true, decide_eq_true_eq, bK] at hm;obtain ⟨⟨⟨⟨⟨⟨⟨hk, hf⟩, ht⟩, hb⟩, hi⟩, hn⟩, hx⟩, hs⟩ := hm;have hl : l.length ≤ 60 := by simp only [bM, Bool.and_eq_true, decide_eq_true_eq] at hs; exact hs.1
 have hx' : m.x.size ≤ 100 := by omega
 have hxm : m.x.size ≤ maxLen := by unfold maxLen; omega
 have wb : ny m.b := ku hb.1 hb.2;have wf : ny m.f := ku (by omega) (by omega);have wi : ny m.i := ku hi.1 (by omega);obtain ⟨mk, mf, mt, mb, mi, mn, mx⟩ := m;dsimp only at *;have hk9 : mk = 1 ∨ mk = 2 ∨ mk = 3 ∨ mk = 4 ∨ mk = 5 ∨ mk = 6 ∨ mk = 7 ∨ mk = 8 ∨ mk = 9 := by omega
 rcases hk9 with rfl | rfl | rfl | rfl | rfl | rfl | rfl | rfl | rfl
 ·exact DX B r p X col mf mt mb mi mn mx _ w hB hr.sm h
 ·exact EO B r p X col mf mt mb mi mn mx al l cl w hB hr.d0 hr.sm (by omega) hr.ye hr.ba wf hsl h
 ·exact Ej B r p X col mf mt mb mi mn mx _ w hB hr.sm hxm wb (by omega) h
 ·exact Ei B r p X col mf mt mb mi mn mx _ w hB hr.d0 hr.d1 hr.sm hr.a1 hr.a2 wi wf h
 ·exact Eh B r p X col mf mt mb mi mn mx _ w hB hr.d0 hr.d1 hr.sm h
 ·exact Ew B r p X col mf mt mb mi mn mx _ w hB hr.d0 hr.d1 hr.sm hxm wb h
 ·obtain ⟨q, rfl⟩ : ∃ q : Nat, mi = (q : Int) := ⟨mi.toNat, by omega⟩
  exact Ed B r p X col mf mt mb mn q mx _ w hB hr.d0 hr.d1 hr.sm (by omega) h
 ·exact Fb B r p X col mf mt mb mi mn mx _ w hB hr.d0 hr.d1 hr.sm.lW (by omega) h
 exact EP B r p X col mf mt mb mi mn mx _ w hB hr.sm h
structure Sm (r : Rc) : Prop where
 s : bD r
 h : r.held.length ≤ 400
theorem Sm.hold (h : Sm r) (m : gq) {l : List Sl} (hl : l.length ≤ 1048576) : Sm (dw r m l) := by
 unfold dw;split
 ·rename_i hlt;refine ⟨⟨h.s.lS, h.s.lD, by simp; omega, h.s.lW, h.s.lY, h.s.lB, h.s.lA, fun i s hs => ?_, h.s.nA⟩, by simp; omega⟩;rcases Nat.lt_or_ge i r.held.length with hi | hi
  ·rw [List.getElem?_append_left hi] at hs; exact h.s.nH i s hs
  rw [List.getElem?_append_right hi] at hs;cases hj : i - r.held.length with
  | zero => rw [hj] at hs; simp only [List.getElem?_cons_zero, Option.some.injEq] at hs; subst hs; exact hl
  | succ n => rw [hj] at hs; simp at hs
 exact h
theorem Sm.calm (h : Sm r) : Sm (aU r) := ⟨⟨h.s.lS, h.s.lD, h.s.lH, h.s.lW, by simp [aU], by simp [aU], by simp [aU], h.s.nH, fun i s hs => by simp [aU] at hs⟩, h.h⟩
theorem Sm.rise (h : Sm r) (b : Int) : Sm (kF r b) := ⟨⟨h.s.lS, h.s.lD, h.s.lH, h.s.lW, h.s.lY, h.s.lB, h.s.lA, h.s.nH, h.s.nA⟩, h.h⟩
theorem Sm.hush (h : Sm r) : Sm (hush r) := ⟨⟨h.s.lS, h.s.lD, h.s.lH, h.s.lW, h.s.lY, h.s.lB, h.s.lA, h.s.nH, h.s.nA⟩, h.h⟩
theorem Sm.follow (h : Sm r) (b : Int) : Sm (bJ r b) := by
 unfold bJ;split
 ·exact (h.rise b).hush
 exact (h.rise b).calm.hush
theorem Sm.known (h : Sm r) (d : Int) : Sm (pX r d) := ⟨⟨h.s.lS, h.s.lD, h.s.lH, h.s.lW, h.s.lY, h.s.lB, h.s.lA, h.s.nH, h.s.nA⟩, h.h⟩
theorem Sm.set (h : Sm r) {i : Nat} (hi : i ≤ 1048576) (s : Sl) : Sm (rC r i s) := ⟨⟨h.s.lS, (show (nU r.ds i s).length ≤ 1048576 by rw [oP]; have := h.s.lD; omega), h.s.lH, h.s.lW, h.s.lY, h.s.lB, h.s.lA, h.s.nH, h.s.nA⟩, h.h⟩
theorem Sm.wish (h : Sm r) (t : ByteArray) : Sm (iC r t) := by
 unfold iC;split
 ·rename_i hb;simp only [pU, Bool.and_eq_true, decide_eq_true_eq] at hb;have := hb.1.1.2;exact ⟨⟨h.s.lS, h.s.lD, h.s.lH, by simp; omega, h.s.lY, h.s.lB, h.s.lA, h.s.nH, h.s.nA⟩, h.h⟩
 exact h
theorem xH : ∀ (l : List Ak) (i f : Int), (jy l i f).length ≤ l.length + 1
 | [], _, _ => by simp [jy]
 | x :: l, i, f => by
  unfold jy;split
  ·have := xH l i f; simp; omega
  split <;> simp
theorem yf : ∀ (l : List Ak) (i f : Int), (∀ a ∈ l, a.2.length ≤ 100000) → ∀ a ∈ jy l i f, a.2.length ≤ 100001
 | [], i, f, _, a, ha => by simp only [jy, List.mem_singleton] at ha; subst ha; simp
 | x :: l, i, f, h, a, ha => by
  unfold jy at ha;split at ha
  ·rcases List.mem_cons.1 ha with rfl | ha
   ·have := h a (by simp); omega
   exact yf l i f (fun y hy => h y (by simp [hy])) a ha
  split at ha
  ·rcases List.mem_cons.1 ha with rfl | ha
   ·have := iP x.2 f; have := h x (by simp); simp only; omega
   have := h a (by simp [ha]); omega
  rcases List.mem_cons.1 ha with rfl | ha
  ·simp
  have := h a ha; omega
theorem Sm.KI (h : Sm r) (ok : xC r) (i f : Int) : Sm (lI r i f) := by
 refine Sm.known (r := { r with acks := jy r.acks i f }) ⟨⟨h.s.lS, h.s.lD, h.s.lH, h.s.lW, h.s.lY, h.s.lB, (show (jy r.acks i f).length ≤ 1048576 by have := xH r.acks i f; have := ok.a1; omega), h.s.nH, fun j s hs => ?_⟩, h.h⟩ _;have := yf r.acks i f (fun a ha => by obtain ⟨n, hn⟩ := List.getElem?_of_mem ha; exact ok.a2 n a hn) s (List.mem_of_getElem? hs);omega
theorem uK (b : Int) : ∀ (t : List Sl) (i : Nat) (ds : List Sl), (rJ b t i ds).length ≤ max ds.length (i + t.length)
 | [], i, ds => by simp [rJ]; omega
 | s :: t, i, ds => by
  have := uK b t (i + 1) (nU ds (i + 1) (b, s.2));rw [oP] at this;simp only [rJ, List.length_cons];omega
theorem Sm.IB (h : Sm r) (ok : xC r) (f : Int) {l : List Sl} (hl : l.length ≤ 60) : Sm (jl r f l) := by
 have hb : (dY r.best l).length ≤ 1048576 := by rw [kT]; have := h.s.lB; omega
 unfold jl;split
 ·exact ⟨⟨h.s.lS, h.s.lD, h.s.lH, h.s.lW, (show (dN r.yes f).length ≤ 1048576 by have := iP r.yes f; have := ok.ye; omega), hb, h.s.lA, h.s.nH, h.s.nA⟩, h.h⟩
 have hc := h.calm;have hd : (jk r (dY r.best l)).length ≤ 1048576 := by
  unfold jk;have h1 := uK r.ball ((dY r.best l).drop r.dk.toNat) r.dk.toNat r.ds;rw [List.length_drop] at h1;have := h.s.lD;have := ok.d0;have := ok.d1;omega
 exact ⟨⟨h.s.lS, hd, h.s.lH, h.s.lW, hc.s.lY, hc.s.lB, hc.s.lA, h.s.nH, hc.s.nA⟩, h.h⟩
theorem Sm.tell (f : Int) : ∀ (l : List ByteArray) {r : Rc}, Sm r → Sm (jO r f l)
 | [], _, h => h
 | t :: l, r, h => Sm.tell f l (h.hold ⟨8, 0, f, 0, 0, 0, t⟩ (l := []) (Nat.zero_le _))
theorem Sm.Nb (h : Sm r) (m : gq) : Sm (jU r m) := by
 unfold jU;split
 ·exact h
 refine Sm.tell _ _ ?_;unfold qL;split
 ·exact ((h.follow m.b).known _).hold _ (Nat.zero_le _)
 exact (h.follow m.b).known _
theorem Sm.need (f : Int) : ∀ (n : Nat) (i : Int) {r : Rc}, Sm r → Sm (jP f n i r)
 | 0, _, _, h => h
 | n + 1, i, r, h => by
  unfold jP;split
  ·exact Sm.need f n (i + 1) (h.hold _ (Nat.zero_le _))
  exact h
theorem Sm.take (h : Sm r) (ok : xC r) {m : gq} {l : List Sl} {of_ : Int} (hm : bY m of_ l = true) : Sm (tV r m l) := by
 simp only [bY, Bool.and_eq_true, decide_eq_true_eq, bK] at hm;obtain ⟨⟨⟨⟨⟨⟨⟨hk, hf⟩, ht⟩, hb⟩, hi⟩, hn⟩, hx⟩, hs⟩ := hm;have hl : l.length ≤ 60 := by simp only [bM, Bool.and_eq_true, decide_eq_true_eq] at hs; exact hs.1
 unfold tV;split
 ·unfold rO;split
  ·exact h.hold _ (Nat.zero_le _)
  exact (h.follow m.b).hold _ (h.follow m.b).s.lD
 split
 ·unfold qB;split
  ·exact h.IB ok m.f hl
  exact h
 split
 ·unfold iE;split
  ·exact h.hold _ (Nat.zero_le _)
  split
  ·exact h
  refine Sm.hold ?_ _ (Nat.zero_le _);split
  ·exact (h.follow m.b).set (by omega) _
  exact h.follow m.b
 split
 ·unfold uN;split
  ·exact h.KI ok m.i m.f
  exact h
 split
 ·unfold tX;split
  ·exact h.hold _ (Nat.zero_le _)
  exact h.Nb m
 split
 ·unfold jr;split
  ·exact (h.set (by omega) _).known _
  exact h
 split
 ·exact Sm.need _ _ _ h
 split
 ·exact h.wish m.x
 unfold iI;split
 ·exact h.calm.rise m.b
 exact h
theorem AV (h : bf r = true) (hS : bD r) : Sm r := by
 refine ⟨hS, ?_⟩;unfold bf at h;simp only [Bool.and_eq_true] at h;have h5 := h.1.1.1.1.1.1.1.1.2;simp only [fO, Bool.and_eq_true, decide_eq_true_eq] at h5;exact h5.1
end Go.Proofs.Ytjdceoimignnpaa
