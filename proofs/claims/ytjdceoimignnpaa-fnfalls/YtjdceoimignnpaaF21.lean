import Derived.Test.YtjdceoimignnpaaF20
namespace Go.Proofs.Ytjdceoimignnpaa
open Go.ChangeShapes Go.WideShapes Go.ChangeAt Go.RowKit
set_option linter.unusedVariables false
set_option linter.unusedSimpArgs false
set_option maxHeartbeats 16000000
set_option maxRecDepth 20000
variable {f : Int} {n : Nat} {r : Rc}
def tX (r : Rc) (m : gq) : Rc := if m.b < r.dp then dw r ⟨9, 0, m.f, r.dp, 0, 0, ⟨#[]⟩⟩ [] else jU r m
theorem Eh (B : Nat) (r : Rc) (p : fU) (X : iU) (col : Nat → Nat) (mf mt mb mi mn : Int) (mx : ByteArray) (mv : Value) (w : World) (hB : B ≤ w.heap.size) (hd0 : 0 ≤ r.dk) (hd1 : r.dk ≤ r.ds.length) (hS : bD r) (h : aG B w r p X col) :
  Calls Try.prog 109 #[.agg (au r p), .agg (bU ⟨5, mf, mt, mb, mi, mn, mx⟩ mv)] w (jH B w col (tX r ⟨5, mf, mt, mb, mi, mn, mx⟩)) := by
 have HB := hid hB;have HD := hid (And.intro hd0 hd1);have HS := hid hS;clear hd0 hd1 hS;obtain ⟨V, hV⟩ : ∃ V, V = ((w.alloc (.cells (au r p) 31)).alloc (.cells (bU ⟨5, mf, mt, mb, mi, mn, mx⟩ mv) 49)).alloc (.cells bP 31) := ⟨_, rfl⟩
 have S0 := hid (show BS B w col ⟨5, mf, mt, mb, mi, mn, mx⟩ mv r p X (dm w.heap.size col) V by rw [hV]; exact BS.start h hB);have BZ := hid (show B ≤ V.heap.size from Nat.le_trans HB.out (by have := S0.out.z.lt; omega));clear h hB;have cK := S0.out.k.cell;have cM := S0.out.ms.cell;have k1 := S0.out.k;have k2 := S0.out.z;rw [hV] at cK cM k1 k2;by_cases g1 : mb < r.dp
 ·have u1 : decide (mb < r.dp) = true := decide_eq_true g1;have FIN := hid (show tX r ⟨5, mf, mt, mb, mi, mn, mx⟩ = dw r ⟨9, 0, mf, r.dp, 0, 0, ⟨#[]⟩⟩ [] by unfold tX; rw [if_pos g1]);go_enter Try.func109, Try.ntmps109
  go_wp2_with (first
   | ((with_reducible refine ah w.heap.size (au r p) rfl ?_ ?_ ?_); rfl; exact k1)
   | ((with_reducible refine bH (ty := 49) (bU ⟨9, 0, mf, r.dp, 0, 0, ⟨#[]⟩⟩ (.slice none 0 0)) ?_ ?_); (· kernel_rfl)))
  rw [← hV];clear hV cK cM k1 k2;refine (iM B r p X _ ⟨9, 0, mf, r.dp, 0, 0, ⟨#[]⟩⟩ none [] 0 _ BZ.out S0.out.has (jb _ _ _ _ _ _) (fun q hq x x' _ hx' => by simp at hx') (Nat.zero_le _) (fun i s hs => by simp at hs)).mono ?_;obtain ⟨r1, hr1⟩ : ∃ r1, r1 = dw r ⟨9, 0, mf, r.dp, 0, 0, ⟨#[]⟩⟩ [] := ⟨_, rfl⟩
  rw [← hr1] at FIN ⊢;clear hr1;rintro e w1 ⟨p1, X1, c1, rfl, has1, hb1, ot1⟩;obtain ⟨_, _, z1, _⟩ := S0.out.call has1 hb1 ot1;have OUT := hid (S0.out.out HB.out has1 hb1 ot1);clear has1 hb1 ot1;go_wp2_with ((with_reducible refine af (w.heap.size + 1 + 1) bP (au r1 p1) rfl rfl ?_ ?_ ?_ ?_ ?_); rfl; rfl; exact z1; simp [Value.oneCell']);have hz := setRow_heap _ (w.heap.size + 1 + 1) _ (au r1 p1) _ _ z1;refine az (ty := 31) Try.results109 (w.heap.size + 1 + 1) (au r1 p1) _ ?_ ?_ hz Try.underlying31 rfl (by kernel_rfl) ?_
  ·rfl
  ·rfl
  rw [FIN.out];exact OUT.out
 have u1 : decide (mb < r.dp) = false := decide_eq_false g1;have FIN := hid (show tX r ⟨5, mf, mt, mb, mi, mn, mx⟩ = jU r ⟨5, mf, mt, mb, mi, mn, mx⟩ by unfold tX; rw [if_neg g1]);have cM8 := S0.out.ms;rw [hV] at cM8;go_enter Try.func109, Try.ntmps109
 go_wp2_with (first
  | ((with_reducible refine ah w.heap.size (au r p) rfl ?_ ?_ ?_); rfl; exact k1)
  | ((with_reducible refine gQ (w.heap.size + 1) (bU ⟨5, mf, mt, mb, mi, mn, mx⟩ mv) _ ?_ ?_ Try.underlying49 rfl ?_ ?_); rfl; exact cM8; (· kernel_rfl)))
 rw [← hV];clear hV cK cM k1 k2;refine (Hy B r p X _ ⟨5, mf, mt, mb, mi, mn, mx⟩ mv _ BZ.out HD.out.1 HD.out.2 HS.out S0.out.has).mono ?_;obtain ⟨r1, hr1⟩ : ∃ r1, r1 = jU r ⟨5, mf, mt, mb, mi, mn, mx⟩ := ⟨_, rfl⟩
 rw [← hr1] at FIN ⊢;clear hr1;rintro e w1 ⟨p1, X1, c1, rfl, has1, hb1, ot1⟩;obtain ⟨_, _, z1, _⟩ := S0.out.call has1 hb1 ot1;have OUT := hid (S0.out.out HB.out has1 hb1 ot1);clear has1 hb1 ot1;go_wp2_with ((with_reducible refine af (w.heap.size + 1 + 1) bP (au r1 p1) rfl rfl ?_ ?_ ?_ ?_ ?_); rfl; rfl; exact z1; simp [Value.oneCell']);have hz := setRow_heap _ (w.heap.size + 1 + 1) _ (au r1 p1) _ _ z1;refine az (ty := 31) Try.results109 (w.heap.size + 1 + 1) (au r1 p1) _ ?_ ?_ hz Try.underlying31 rfl (by kernel_rfl) ?_
 ·rfl
 ·rfl
 rw [FIN.out];exact OUT.out
def jr (r : Rc) (b i : Int) (x : ByteArray) : Rc := if i = r.dk + 1 ∧ 0 < b ∧ b ≤ r.dp then pX (rC r i.toNat (b, x)) i else r
theorem Ew (B : Nat) (r : Rc) (p : fU) (X : iU) (col : Nat → Nat) (mf mt mb mi mn : Int) (mx : ByteArray) (mv : Value) (w : World) (hB : B ≤ w.heap.size) (hd0 : 0 ≤ r.dk) (hd1 : r.dk ≤ r.ds.length) (hS : bD r) (hx : mx.size ≤ maxLen) (hb : ny mb) (h : aG B w r p X col) :
  Calls Try.prog 109 #[.agg (au r p), .agg (bU ⟨6, mf, mt, mb, mi, mn, mx⟩ mv)] w (jH B w col (jr r mb mi mx)) := by
 have HB := hid hB;have HH := hid (show 0 ≤ r.dk ∧ r.dk ≤ r.ds.length ∧ bD r ∧ mx.size ≤ maxLen ∧ ny mb from ⟨hd0, hd1, hS, hx, hb⟩);have q1 : 0 ≤ r.dk := hd0;have q2 : r.dk ≤ 1048576 := by have := hS.lD; omega
 clear hd0 hd1 hS hx hb;have e3 : IntKind.i64.wrap (r.dk + 1) = r.dk + 1 := by go_arith
 obtain ⟨V, hV⟩ : ∃ V, V = ((w.alloc (.cells (au r p) 31)).alloc (.cells (bU ⟨6, mf, mt, mb, mi, mn, mx⟩ mv) 49)).alloc (.cells bP 31) := ⟨_, rfl⟩
 have S0 := hid (show BS B w col ⟨6, mf, mt, mb, mi, mn, mx⟩ mv r p X (dm w.heap.size col) V by rw [hV]; exact BS.start h hB);have BZ := hid (show B ≤ V.heap.size from Nat.le_trans HB.out (by have := S0.out.z.lt; omega));clear h hB;have cK := S0.out.k.cell;have cM := S0.out.ms.cell;have k1 := S0.out.k;have k2 := S0.out.z;rw [hV] at cK cM k1 k2;by_cases g1 : mi = r.dk + 1
 ·have u1 : (mi == r.dk + 1) = true := by rw [g1]; exact beq_self_eq_true _
  by_cases g2 : 0 < mb
  ·have u2 : decide (0 < mb) = true := decide_eq_true g2;by_cases g3 : mb ≤ r.dp
   ·have u3 : decide (mb ≤ r.dp) = true := decide_eq_true g3;obtain ⟨q, hq⟩ : ∃ q : Nat, mi = ((q + 1 : Nat) : Int) := ⟨r.dk.toNat, by omega⟩
    have FIN := hid (show jr r mb mi mx = pX (rC r (q + 1) (mb, mx)) mi by unfold jr; rw [if_pos ⟨g1, g2, g3⟩, hq]; rfl);have QL := hid (show q ≤ 1048576 by omega);have HQ := hid hq;clear hq g1;go_enter Try.func109, Try.ntmps109
    go_wp2_with (first
     | ((with_reducible refine ah w.heap.size (au r p) rfl ?_ ?_ ?_); rfl; exact k1)
     | ((with_reducible refine bH (ty := 43) #[.int .i64 mb, .string mx] ?_ ?_); (· kernel_rfl)))
    rw [← hV];clear hV cK cM k1 k2;rw [HQ.out];refine (vX B r p X _ q (mb, mx) _ BZ.out QL.out HH.out.2.2.1.lD ⟨HH.out.2.2.2.1, HH.out.2.2.2.2⟩ S0.out.has).mono ?_;obtain ⟨r1, hr1⟩ : ∃ x, x = rC r (q + 1) (mb, mx) := ⟨_, rfl⟩
    rw [← hr1];have ER1 := hid hr1;clear hr1;rintro e w1 ⟨p1, X1, c1, rfl, has1, hb1, ot1⟩;obtain ⟨kk, _, _, _⟩ := S0.out.call has1 hb1 ot1;have SN1 := hid (S0.out.next HB.out has1 hb1 ot1);clear has1 hb1 ot1;obtain ⟨W1, hW1⟩ : ∃ v, v = w1.setRow w.heap.size (au r1 p1) := ⟨_, rfl⟩
    rw [← hW1] at SN1;have cK := SN1.out.k.cell;have fK := SN1.out.k.free;have cM := SN1.out.ms.cell;have k1 := SN1.out.k;have k2 := SN1.out.z;have BZ1 := hid (show B ≤ W1.heap.size from Nat.le_trans HB.out (by have := k2.lt; omega));rw [hW1] at cK fK cM k1 k2;have NP := hid ((show BS B w col ⟨6, mf, mt, mb, mi, mn, mx⟩ mv (pX r1 r1.dk) p1 X1 c1 W1 from SN1.out).LU HB.out mi);have k3 := NP.out.k;have k4 := NP.out.z;rw [hW1] at k3 k4
    go_wp2_with (first
     | ((with_reducible refine af w.heap.size (au r p) (au r1 p1) rfl rfl ?_ ?_ ?_ ?_ ?_); rfl; rfl; exact kk; simp [Value.oneCell'])
     | ((with_reducible refine ah w.heap.size (au (pX r1 mi) p1) rfl ?_ ?_ ?_); rfl; exact k3)
     | ((with_reducible refine af (w.heap.size + 1 + 1) bP (au (pX r1 mi) p1) rfl rfl ?_ ?_ ?_ ?_ ?_); rfl; rfl; exact k4; simp [Value.oneCell']))
    have hz := setRow_heap _ (w.heap.size + 1 + 1) _ (au (pX r1 mi) p1) _ _ k4;refine az (ty := 31) Try.results109 (w.heap.size + 1 + 1) (au (pX r1 mi) p1) _ ?_ ?_ hz Try.underlying31 rfl (by kernel_rfl) ?_
    ·rfl
    ·rfl
    rw [FIN.out, ← ER1.out, ← hW1];exact NP.out.same HB.out
   have u3 : decide (mb ≤ r.dp) = false := decide_eq_false g3;have FIN := hid (show jr r mb mi mx = r by unfold jr; rw [if_neg (fun q => g3 q.2.2)]);clear g1;go_enter Try.func109, Try.ntmps109
   go_wp2_with (first
    | ((with_reducible refine ah w.heap.size (au r p) rfl ?_ ?_ ?_); rfl; exact k1)
    | ((with_reducible refine af (w.heap.size + 1 + 1) bP (au r p) rfl rfl ?_ ?_ ?_ ?_ ?_); rfl; rfl; exact k2; simp [Value.oneCell']))
   have hz := setRow_heap _ (w.heap.size + 1 + 1) _ (au r p) _ _ k2;refine az (ty := 31) Try.results109 (w.heap.size + 1 + 1) (au r p) _ ?_ ?_ hz Try.underlying31 rfl (by kernel_rfl) ?_
   ·rfl
   ·rfl
   rw [FIN.out, ← hV];exact S0.out.same HB.out
  have u2 : decide (0 < mb) = false := decide_eq_false g2;have FIN := hid (show jr r mb mi mx = r by unfold jr; rw [if_neg (fun q => g2 q.2.1)]);clear g1;go_enter Try.func109, Try.ntmps109
  go_wp2_with (first
   | ((with_reducible refine ah w.heap.size (au r p) rfl ?_ ?_ ?_); rfl; exact k1)
   | ((with_reducible refine af (w.heap.size + 1 + 1) bP (au r p) rfl rfl ?_ ?_ ?_ ?_ ?_); rfl; rfl; exact k2; simp [Value.oneCell']))
  have hz := setRow_heap _ (w.heap.size + 1 + 1) _ (au r p) _ _ k2;refine az (ty := 31) Try.results109 (w.heap.size + 1 + 1) (au r p) _ ?_ ?_ hz Try.underlying31 rfl (by kernel_rfl) ?_
  ·rfl
  ·rfl
  rw [FIN.out, ← hV];exact S0.out.same HB.out
 have u1 : (mi == r.dk + 1) = false := beq_false_of_ne g1;have FIN := hid (show jr r mb mi mx = r by unfold jr; rw [if_neg (fun q => g1 q.1)]);go_enter Try.func109, Try.ntmps109
 go_wp2_with (first
  | ((with_reducible refine ah w.heap.size (au r p) rfl ?_ ?_ ?_); rfl; exact k1)
  | ((with_reducible refine af (w.heap.size + 1 + 1) bP (au r p) rfl rfl ?_ ?_ ?_ ?_ ?_); rfl; rfl; exact k2; simp [Value.oneCell']))
 have hz := setRow_heap _ (w.heap.size + 1 + 1) _ (au r p) _ _ k2;refine az (ty := 31) Try.results109 (w.heap.size + 1 + 1) (au r p) _ ?_ ?_ hz Try.underlying31 rfl (by kernel_rfl) ?_
 ·rfl
 ·rfl
 rw [FIN.out, ← hV];exact S0.out.same HB.out
structure zX (g : Nat) (c cm : Array Value) (w' : World) : Prop where
 blk : aC w' g c 31
 bm : aC w' (g + 1) cm 49
theorem zX.drew {g : Nat} {c cm : Array Value} {w' : World} (h : zX g c cm w') : zX g c cm w'.drew := ⟨h.blk, h.bm⟩
def Eg (r : Rc) (i : Int) : ByteArray := match r.ds[(i - 1).toNat]? with | some s => s.2 | none => ⟨#[]⟩
def jP (f : Int) : Nat → Int → Rc → Rc
 | 0, _, r => r
 | n + 1, i, r => if r.lead = true ∧ 0 < i ∧ i ≤ r.dk then jP f n (i + 1) (dw r ⟨6, 0, f, r.ball, i, 0, Eg r i⟩ []) else r
def Di (r : Rc) : Int × List Sl × Bool × Int := (r.dk, r.ds, r.lead, r.ball)
theorem Eb (r : Rc) (m : gq) (l : List Sl) : Di (dw r m l) = Di r := by unfold dw; split <;> rfl
theorem su {i : Int} (h : ¬ (r.lead = true ∧ 0 < i ∧ i ≤ r.dk)) : jP f n i r = r := by
 cases n with
 | zero => rfl
 | succ n => unfold jP; rw [if_neg h]
theorem CV {x : Nat} {y : Sl} (h1 : r.lead = true) (h2 : 0 < x + 1) (h3 : ((x + 1 : Nat) : Int) ≤ r.dk) (hy : r.ds[x]? = some y) : jP f (n + 1) ((x + 1 : Nat) : Int) r = jP f n (((x + 1 : Nat) : Int) + 1) (dw r ⟨6, 0, f, r.ball, ((x : Nat) : Int) + 1, 0, y.2⟩ []) := by
 conv => lhs; unfold jP
 rw [if_pos ⟨h1, by omega, h3⟩];have e : Eg r ((x + 1 : Nat) : Int) = y.2 := by
  unfold Eg;rw [show (((x + 1 : Nat) : Int) - 1).toNat = x by omega, hy]
 rw [e];rfl
theorem Ed (B : Nat) (r : Rc) (p : fU) (X : iU) (col : Nat → Nat) (mf mt mb mn : Int) (q : Nat) (mx : ByteArray) (mv : Value) (w : World) (hB : B ≤ w.heap.size) (hd0 : 0 ≤ r.dk) (hd1 : r.dk ≤ r.ds.length) (hS : bD r) (hq : q ≤ 1048576) (h : aG B w r p X col) :
  Calls Try.prog 109 #[.agg (au r p), .agg (bU ⟨7, mf, mt, mb, ((q : Nat) : Int), mn, mx⟩ mv)] w (jH B w col (jP mf 5 (q : Int) r)) := by
 have HB := hid hB;have HD := hid (show 0 ≤ r.dk ∧ r.dk ≤ r.ds.length ∧ r.ds.length ≤ 1048576 from ⟨hd0, hd1, hS.lD⟩);clear hd0 hd1 hS;obtain ⟨V, hV⟩ : ∃ V, V = ((w.alloc (.cells (au r p) 31)).alloc (.cells (bU ⟨7, mf, mt, mb, ((q : Nat) : Int), mn, mx⟩ mv) 49)).alloc (.cells bP 31) := ⟨_, rfl⟩
 have S0 := hid (show BS B w col ⟨7, mf, mt, mb, ((q : Nat) : Int), mn, mx⟩ mv r p X (dm w.heap.size col) V by rw [hV]; exact BS.start h hB);have BZ := hid (show B ≤ V.heap.size from Nat.le_trans HB.out (by have := S0.out.z.lt; omega));clear h hB;have cK := S0.out.k.cell;have cM := S0.out.ms.cell;have k1 := S0.out.k;have k2 := S0.out.z;rw [hV] at cK cM k1 k2;go_enter Try.func109, Try.ntmps109;go_wp2_with fail;rw [← hV];clear hV cK cM k1 k2;have e5 : IntKind.i64.wrap ((q : Int) + 5) = (q : Int) + 5 := by go_arith
 go_loopw [5] (fun j wr => ∃ (n0 : Nat) (r4 : Rc) (p4 : fU) (X4 : iU) (c4 : Nat → Nat), q ≤ n0 ∧ n0 ≤ q + 5 ∧ j = .int .i64 n0 ∧ jP mf (q + 5 - n0) n0 r4 = jP mf 5 q r ∧ Di r4 = Di r ∧ BS B w col ⟨7, mf, mt, mb, ((q : Nat) : Int), mn, mx⟩ mv r4 p4 X4 c4 wr) (fun j _ => q + 5 - (intOf j).toNat);case atStart => exact ⟨q, r, p, X, _, Nat.le_refl _, by omega, rfl, by rw [show q + 5 - q = 5 by omega], rfl, S0.out⟩
 obtain ⟨n0, r4, p4, X4, c4, hn1, hn2, rfl, hneed, hkeep, hss⟩ := hrel;have ST := hid hss;have HN := hid hneed;have KP := hid hkeep
 have D4 := hid (show 0 ≤ r4.dk ∧ r4.dk ≤ r4.ds.length ∧ r4.ds.length ≤ 1048576 by
  have h1 : r4.dk = r.dk := congrArg (fun t => t.1) hkeep;have h2 : r4.ds = r.ds := congrArg (fun t => t.2.1) hkeep;rw [h1, h2]
  exact HD.out)
 clear hss hneed hkeep S0;have cK := ST.out.k.cell;have fK := ST.out.k.free;have cM := ST.out.ms.cell;have k1 := ST.out.k;have k2 := ST.out.z;cases hl : r4.lead
 ·skip
  have NE := hid (show jP mf 5 (q : Int) r = r4 by rw [← HN.out]; exact su (fun h => by rw [hl] at h; exact absurd h.1 (by simp)))
  go_wp2_with (first
   | ((with_reducible refine ah w.heap.size (au r4 p4) rfl ?_ ?_ ?_); rfl; exact k1)
   | ((with_reducible refine af (w.heap.size + 1 + 1) bP (au r4 p4) rfl rfl ?_ ?_ ?_ ?_ ?_); rfl; rfl; exact k2; simp [Value.oneCell']))
  have hz := setRow_heap _ (w.heap.size + 1 + 1) _ (au r4 p4) _ _ k2;refine az (ty := 31) Try.results109 (w.heap.size + 1 + 1) (au r4 p4) _ ?_ ?_ hz Try.underlying31 rfl (by kernel_rfl) ?_
  ·rfl
  ·rfl
  rw [NE.out];exact ST.out.same HB.out
 by_cases h0 : 0 < n0
 ·have u1 : decide ((0 : Int) < (n0 : Int)) = true := decide_eq_true (by omega);by_cases h5 : n0 < q + 5
  ·have u2 : decide ((n0 : Int) < (q : Int) + 5) = true := decide_eq_true (by omega);by_cases h6 : (n0 : Int) ≤ r4.dk
   ·have u3 : decide ((n0 : Int) ≤ r4.dk) = true := decide_eq_true h6;obtain ⟨x, rfl⟩ : ∃ x, n0 = x + 1 := ⟨n0 - 1, by omega⟩
    have XQ := hid h5;have d4 := D4.out;obtain ⟨y, hy⟩ : ∃ y, r4.ds[x]? = some y := ⟨_, List.getElem?_eq_getElem (by omega)⟩
    have LD := hid (show r4.lead = true ∧ r4.ds[x]? = some y ∧ ((x + 1 : Nat) : Int) ≤ r4.dk from ⟨hl, hy, h6⟩);have YG := hid (show y.2.size ≤ maxLen from (ST.out.has.gd.d x y hy).1);obtain ⟨gD, ed, _, dc, _⟩ := ST.out.has.d.cell (iY r4.ds x y hy).2;obtain ⟨aS4, cS4, aD4, cD4, aH4, cH4, aW4, cW4, aY4, cY4, aB4, cB4, aA4, cA4⟩ := p4;dsimp only at ed;subst ed;have e6 : (0 : Int) ≤ (x : Int) := by omega
    have e7 : (x : Int) < (r4.ds.length : Int) := by omega
    have e9 : x ≤ 1048576 := by omega
    have e8 : IntKind.i64.wrap ((x : Nat) : Int) = ((x : Nat) : Int) := by go_arith
    clear hy d4;go_wp2_with fail;have hK0 : zX w.heap.size (au r4 ⟨aS4, cS4, some ⟨gD, 0, none⟩, cD4, aH4, cH4, aW4, cW4, aY4, cY4, aB4, cB4, aA4, cA4⟩) (bU ⟨7, mf, mt, mb, ((q : Nat) : Int), mn, mx⟩ mv) wr := ⟨k1, ST.out.ms⟩
    refine aI (S := zX w.heap.size (au r4 ⟨aS4, cS4, some ⟨gD, 0, none⟩, cD4, aH4, cH4, aW4, cW4, aY4, cY4, aB4, cB4, aA4, cA4⟩) (bU ⟨7, mf, mt, mb, ((q : Nat) : Int), mn, mx⟩ mv)) 16 (by kernel_rfl) hK0.drew (fun q9 => ?_);simp only [qz, Nat.reduceAdd];clear hK0 cK fK cM;refine dO (i := 0) (v := .agg (au r4 ⟨aS4, cS4, some ⟨gD, 0, none⟩, cD4, aH4, cH4, aW4, cW4, aY4, cY4, aB4, cB4, aA4, cA4⟩)) (ax rfl) (by kernel_rfl) (by kernel_rfl) (by kernel_rfl) (by kernel_rfl) (fun _ _ _ h => h) (gG (fun w9 hS => hS.blk) rfl (by rfl) _ rfl rfl) q9 ?_;try simp only [qq]
    refine bg.go [1, 2, 3, 4, 5, 6, 7, 8, 9, 10, 11, 12] ?_;iterate 12 (apply bg.take (ax rfl) (by kernel_rfl) (by rfl) (fun _ _ _ h => h) q9; (· intro w9 hSw; have hq := hSw.blk.cell; have hm := hSw.bm.cell; clear hSw; go_simp; try with_reducible rfl); try simp only [qq])
    refine bg.fin ?_;refine aT 13 fun K hK => ?_
    go_simp;refine hK.out _ _ q9 (fun hNew => ?_);clear hK K hNew;try simp only [qq]
    refine bg.go [14] ?_;iterate 1 (apply bg.take (ax rfl) (by kernel_rfl) (by rfl) (fun _ _ _ h => h) q9; (· intro w9 hSw; have hq := hSw.blk.cell; have hm := hSw.bm.cell; clear hSw; go_simp; try with_reducible rfl); try simp only [qq])
    refine bg.fin ?_;refine aT 15 fun K hK => ?_
    go_simp;clear dc;have SD := hid (ST.out.ext HB.out (show Below wr.heap.size wr wr.drew from (Below.refl _ _).drew));refine (iM B r4 ⟨aS4, cS4, some ⟨gD, 0, none⟩, cD4, aH4, cH4, aW4, cW4, aY4, cY4, aB4, cB4, aA4, cA4⟩ X4 c4 ⟨6, 0, mf, r4.ball, ((x : Nat) : Int) + 1, 0, y.2⟩ none [] 0 wr.drew (show B ≤ wr.heap.size from Nat.le_trans HB.out (by have := k2.lt; omega)) SD.out.has (jb _ _ _ _ _ _) (fun q hq x x' _ hx' => by simp at hx') YG.out (fun i s hs => by simp at hs)).mono ?_;obtain ⟨r5, hr5⟩ : ∃ r5, r5 = dw r4 ⟨6, 0, mf, r4.ball, ((x : Nat) : Int) + 1, 0, y.2⟩ [] := ⟨_, rfl⟩
    rw [← hr5];have E5 := hid hr5;clear hr5;rintro e w5 ⟨p5, X5, c5, rfl, has5, hb5, ot5⟩;obtain ⟨q1, q2, q3, _⟩ := SD.out.call has5 hb5 ot5;have N5 := hid (SD.out.next HB.out has5 hb5 ot5);clear has5 hb5 ot5;go_wp2_with fail;refine hK.out _ _ ⟨q1, q2⟩ (fun _ => ?_);clear hK K q9;try simp only [qq]
    refine aJ fun K hK => ?_
    rw [if_pos (by rfl)];refine wp_store_row 31 _ _ rfl w.heap.size (au r5 p5) rfl rfl 31 (au r4 ⟨aS4, cS4, some ⟨gD, 0, none⟩, cD4, aH4, cH4, aW4, cW4, aY4, cY4, aB4, cB4, aA4, cA4⟩) q1 (by kernel_rfl) rfl (by simp [Value.oneCell']) ?_;refine hK.out _ _ ?_;clear hK K;go_wp2_with fail;go_roundw
    case rel => exact ⟨x + 1 + 1, r5, p5, X5, c5, by omega, by omega, by go_num, by
     rw [← HN.out, show q + 5 - (x + 1) = (q + 5 - (x + 1 + 1)) + 1 by have := XQ.out; omega];rw [CV LD.out.1 (by omega) LD.out.2.2 LD.out.2.1, E5.out]
     rfl, by rw [E5.out]; exact (Eb _ _ _).trans KP.out, N5.out⟩
    case measure => simp [intOf]; omega
   have u3 : decide ((n0 : Int) ≤ r4.dk) = false := decide_eq_false h6;have H6 := hid h6;have NE := hid (show jP mf 5 (q : Int) r = r4 by rw [← HN.out]; exact su (fun h => H6.out h.2.2))
   go_wp2_with (first
    | ((with_reducible refine ah w.heap.size (au r4 p4) rfl ?_ ?_ ?_); rfl; exact k1)
    | ((with_reducible refine af (w.heap.size + 1 + 1) bP (au r4 p4) rfl rfl ?_ ?_ ?_ ?_ ?_); rfl; rfl; exact k2; simp [Value.oneCell']))
   have hz := setRow_heap _ (w.heap.size + 1 + 1) _ (au r4 p4) _ _ k2;refine az (ty := 31) Try.results109 (w.heap.size + 1 + 1) (au r4 p4) _ ?_ ?_ hz Try.underlying31 rfl (by kernel_rfl) ?_
   ·rfl
   ·rfl
   rw [NE.out];exact ST.out.same HB.out
  have u2 : decide ((n0 : Int) < (q : Int) + 5) = false := decide_eq_false (by omega);have H5 := hid (show q + 5 - n0 = 0 by omega);have NE := hid (show jP mf 5 (q : Int) r = r4 by rw [← HN.out]; rw [H5.out]; rfl)
  go_wp2_with (first
   | ((with_reducible refine ah w.heap.size (au r4 p4) rfl ?_ ?_ ?_); rfl; exact k1)
   | ((with_reducible refine af (w.heap.size + 1 + 1) bP (au r4 p4) rfl rfl ?_ ?_ ?_ ?_ ?_); rfl; rfl; exact k2; simp [Value.oneCell']))
  have hz := setRow_heap _ (w.heap.size + 1 + 1) _ (au r4 p4) _ _ k2;refine az (ty := 31) Try.results109 (w.heap.size + 1 + 1) (au r4 p4) _ ?_ ?_ hz Try.underlying31 rfl (by kernel_rfl) ?_
  ·rfl
  ·rfl
  rw [NE.out];exact ST.out.same HB.out
 have u1 : decide ((0 : Int) < (n0 : Int)) = false := decide_eq_false (by omega);have H0 := hid h0;have NE := hid (show jP mf 5 (q : Int) r = r4 by rw [← HN.out]; exact su (fun h => by have := H0.out; omega))
 go_wp2_with (first
  | ((with_reducible refine ah w.heap.size (au r4 p4) rfl ?_ ?_ ?_); rfl; exact k1)
  | ((with_reducible refine af (w.heap.size + 1 + 1) bP (au r4 p4) rfl rfl ?_ ?_ ?_ ?_ ?_); rfl; rfl; exact k2; simp [Value.oneCell']))
 have hz := setRow_heap _ (w.heap.size + 1 + 1) _ (au r4 p4) _ _ k2;refine az (ty := 31) Try.results109 (w.heap.size + 1 + 1) (au r4 p4) _ ?_ ?_ hz Try.underlying31 rfl (by kernel_rfl) ?_
 ·rfl
 ·rfl
 rw [NE.out];exact ST.out.same HB.out
end Go.Proofs.Ytjdceoimignnpaa
