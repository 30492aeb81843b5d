import Derived.Test.YtjdceoimignnpaaF17
namespace Go.Proofs.Ytjdceoimignnpaa
open Go.ChangeShapes Go.WideShapes Go.ChangeAt Go.RowKit
set_option linter.unusedVariables false
set_option linter.unusedSimpArgs false
set_option maxHeartbeats 16000000
set_option maxRecDepth 20000
variable {m : gq} {B : Nat} {c' c'' col : Nat → Nat} {r r' : Rc} {p p' : fU} {X X' : iU} {mv : Value} {v v' w : World}
structure BS (B : Nat) (w : World) (col : Nat → Nat) (m : gq) (mv : Value) (r : Rc) (p : fU) (X : iU) (c' : Nat → Nat) (v : World) : Prop where
 k : aC v w.heap.size (au r p) 31
 ms : aC v (w.heap.size + 1) (bU m mv) 49
 z : aC v (w.heap.size + 1 + 1) bP 31
 has : aG B v r p X c'
 c0 : 8 < c' w.heap.size
 c1 : 8 < c' (w.heap.size + 1)
 c2 : 8 < c' (w.heap.size + 1 + 1)
 bel : Below B w v
 oth : Others w col v c'
theorem BS.ext (h : BS B w col m mv r p X c' v) (hB : B ≤ w.heap.size) (hb : Below v.heap.size v v') : BS B w col m mv r p X c' v' :=
 ⟨h.k.ext hb, h.ms.ext hb, h.z.ext hb, h.has.ext hb, h.c0, h.c1, h.c2, h.bel.trans (hb.mono (Nat.le_trans hB (Nat.le_of_lt (Nat.lt_of_le_of_lt (by omega) h.z.lt)))), fun b hb' h8 => ⟨(hb.block b (by have := h.z.lt; omega)).trans (h.oth b hb' h8).1, (h.oth b hb' h8).2⟩⟩
theorem BS.call (h : BS B w col m mv r p X c' v) (has' : aG B v' r' p' X' c'') (hb : Below B v v') (ot : Others v c' v' c'') :
  aC v' w.heap.size (au r p) 31 ∧ aC v' (w.heap.size + 1) (bU m mv) 49 ∧ aC v' (w.heap.size + 1 + 1) bP 31 ∧ 8 < c'' w.heap.size ∧ 8 < c'' (w.heap.size + 1) ∧ 8 < c'' (w.heap.size + 1 + 1) ∧ Below B w v' ∧ Others w col v' c'' :=
 ⟨(ot _ h.k.lt h.c0).1.trans h.k, (ot _ h.ms.lt h.c1).1.trans h.ms, (ot _ h.z.lt h.c2).1.trans h.z, (ot _ h.k.lt h.c0).2, (ot _ h.ms.lt h.c1).2, (ot _ h.z.lt h.c2).2, h.bel.trans hb,
  h.oth.trans ot (by have := h.z.lt; omega)⟩
theorem BS.next (h : BS B w col m mv r p X c' v) (hB : B ≤ w.heap.size) (has' : aG B v' r' p' X' c'') (hb : Below B v v') (ot : Others v c' v' c'') :
  BS B w col m mv r' p' X' c'' (v'.setRow w.heap.size (au r' p')) := by
 obtain ⟨q1, q2, q3, q4, q5, q6, q7, q8⟩ := h.call has' hb ot;exact ⟨setRow_heap _ _ _ _ _ _ q1, (setRow_other _ _ _ _ (by omega)).trans q2, (setRow_other _ _ _ _ (by omega)).trans q3, has'.setRow q4 _, q4, q5, q6, ay q7 hB _, fun b hb' h8 => ⟨(setRow_other _ _ _ _ (by omega)).trans (q8 b hb' h8).1, (q8 b hb' h8).2⟩⟩
theorem BS.out (h : BS B w col m mv r p X c' v) (hB : B ≤ w.heap.size) (has' : aG B v' r' p' X' c'') (hb : Below B v v') (ot : Others v c' v' c'') :
  jH B w col r' (.returned (.agg (au r' p'))) (v'.setRow (w.heap.size + 1 + 1) (au r' p')) := by
 obtain ⟨q1, q2, q3, q4, q5, q6, q7, q8⟩ := h.call has' hb ot;exact ⟨p', X', c'', rfl, has'.setRow q6 _, ay q7 (by omega) _, fun b hb' h8 => ⟨(setRow_other _ _ _ _ (by omega)).trans (q8 b hb' h8).1, (q8 b hb' h8).2⟩⟩
theorem BS.same (h : BS B w col m mv r p X c' v) (hB : B ≤ w.heap.size) : jH B w col r (.returned (.agg (au r p))) (v.setRow (w.heap.size + 1 + 1) (au r p)) :=
 ⟨p, X, c', rfl, h.has.setRow h.c2 _, ay h.bel (by omega) _, fun b hb' h8 => ⟨(setRow_other _ _ _ _ (by omega)).trans (h.oth b hb' h8).1, (h.oth b hb' h8).2⟩⟩
theorem BS.LU {d : Int} (h : BS B w col m mv (pX r d) p X c' v) (hB : B ≤ w.heap.size) (d' : Int) : BS B w col m mv (pX r d') p X c' (v.setCell ⟨w.heap.size, 7, none⟩ (.int .i64 d')) :=
 ⟨by have := h.k.set (o := 7) (.int .i64 d'); simpa using this, h.ms.setCell (by simp) _, h.z.setCell (by simp; omega) _, (h.has.like (r' := pX r d') rfl rfl rfl rfl rfl rfl rfl).setCell (q := ⟨w.heap.size, 7, none⟩) h.c0 _, h.c0, h.c1, h.c2, bG h.bel hB _, fun b hb h8 => ⟨(heap_setCell_other _ ⟨w.heap.size, 7, none⟩ b _ (by simp; omega)).trans (h.oth b hb h8).1, (h.oth b hb h8).2⟩⟩
theorem BS.start (h : aG B w r p X col) (hB : B ≤ w.heap.size) : BS B w col m mv r p X (dm w.heap.size col) (((w.alloc (.cells (au r p) 31)).alloc (.cells (bU m mv) 49)).alloc (.cells bP 31)) := by
 have hb : Below w.heap.size w (((w.alloc (.cells (au r p) 31)).alloc (.cells (bU m mv) 49)).alloc (.cells bP 31)) := ae (ae (ae (Below.refl _ _) _) _) _;exact ⟨((aC.new _ _ _).alloc _).alloc _, (aC.new' _ _ (by simp)).alloc _, aC.new' _ _ (by simp), h.fresh.ext hb, by rw [bI (Nat.le_refl _)]; omega, by rw [bI (by omega)]; omega, by rw [bI (by omega)]; omega, hb.mono hB, Others.of hb (fun b hb => bn hb)⟩
def DU (b n : Int) : List Sl → Int → Int
 | [], k => k
 | s :: t, k => if k < n ∧ s.1 = b then DU b n t (k + 1) else k
def qL (r : Rc) (m : gq) : Rc := if r.dk < m.n then dw r ⟨7, 0, m.f, m.b, r.dk + 1, 0, ⟨#[]⟩⟩ [] else r
def jO (r : Rc) (f : Int) (l : List ByteArray) : Rc := l.foldl (fun r t => dw r ⟨8, 0, f, 0, 0, 0, t⟩ []) r
def lG (r : Rc) (m : gq) : Rc := pX r (DU m.b m.n (r.ds.drop r.dk.toNat) r.dk)
def jU (r : Rc) (m : gq) : Rc := if m.f = r.num ∨ m.b < 1 then r else jO (qL (lG (bJ r m.b) m) m) m.f r.wish
theorem sK (r : Rc) (m : gq) (l : List Sl) : (dw r m l).wish = r.wish := by unfold dw; split <;> rfl
theorem zt (r : Rc) (b : Int) : (bJ r b).wish = r.wish := by unfold bJ hush kF aU; split <;> rfl
theorem sJ (r : Rc) (b : Int) : (bJ r b).ds = r.ds := by unfold bJ hush kF aU; split <;> rfl
theorem BP (r : Rc) (b : Int) : (bJ r b).dk = r.dk := by unfold bJ hush kF aU; split <;> rfl
theorem sH (r : Rc) (f : Int) (l : List ByteArray) (t : ByteArray) : jO r f (l ++ [t]) = dw (jO r f l) ⟨8, 0, f, 0, 0, 0, t⟩ [] := by unfold jO; rw [List.foldl_append]; rfl
theorem pF (f : Int) : ∀ (l : List ByteArray) (r : Rc), (jO r f l).wish = r.wish
 | [], _ => rfl
 | t :: l, r => by
  show (jO (dw r ⟨8, 0, f, 0, 0, 0, t⟩ []) f l).wish = r.wish;rw [pF f l, sK]
structure zY (g : Nat) (c cm : Array Value) (w' : World) : Prop where
 blk : aC w' g c 31
 bm : aC w' (g + 1) cm 49
theorem zY.drew {g : Nat} {c cm : Array Value} {w' : World} (h : zY g c cm w') : zY g c cm w'.drew := ⟨h.blk, h.bm⟩
def rO (r : Rc) (m : gq) : Rc := if m.b ≤ r.dp then dw r ⟨9, 0, m.f, r.dp, 0, 0, ⟨#[]⟩⟩ [] else dw (bJ r m.b) ⟨2, 0, m.f, m.b, 0, 0, ⟨#[]⟩⟩ (bJ r m.b).ds
theorem DX (B : Nat) (r : Rc) (p : fU) (X : iU) (col : Nat → Nat) (mf mt mb mi mn : Int) (mx : ByteArray) (mv : Value) (w : World) (hB : B ≤ w.heap.size) (hS : bD r) (h : aG B w r p X col) :
  Calls Try.prog 109 #[.agg (au r p), .agg (bU ⟨1, mf, mt, mb, mi, mn, mx⟩ mv)] w (jH B w col (rO r ⟨1, mf, mt, mb, mi, mn, mx⟩)) := by
 have HB := hid hB;have HH := hid hS;clear hS;obtain ⟨V, hV⟩ : ∃ V, V = ((w.alloc (.cells (au r p) 31)).alloc (.cells (bU ⟨1, mf, mt, mb, mi, mn, mx⟩ mv) 49)).alloc (.cells bP 31) := ⟨_, rfl⟩
 have S0 := hid (show BS B w col ⟨1, mf, mt, mb, mi, mn, mx⟩ mv r p X (dm w.heap.size col) V by rw [hV]; exact BS.start h hB);have BZ := hid (show B ≤ V.heap.size from Nat.le_trans HB.out (by have := S0.out.z.lt; omega));clear h hB;have cK := S0.out.k.cell;have cM := S0.out.ms.cell;have k1 := S0.out.k;have k2 := S0.out.z;rw [hV] at cK cM k1 k2;by_cases g1 : mb ≤ r.dp
 ·have u1 : decide (mb ≤ r.dp) = true := decide_eq_true g1;have FIN := hid (show rO r ⟨1, mf, mt, mb, mi, mn, mx⟩ = dw r ⟨9, 0, mf, r.dp, 0, 0, ⟨#[]⟩⟩ [] by unfold rO; rw [if_pos g1]);go_enter Try.func109, Try.ntmps109
  go_wp2_with (first
   | ((with_reducible refine ah w.heap.size (au r p) rfl ?_ ?_ ?_); rfl; exact k1)
   | ((with_reducible refine bH (ty := 49) (bU ⟨9, 0, mf, r.dp, 0, 0, ⟨#[]⟩⟩ (.slice none 0 0)) ?_ ?_); (· kernel_rfl)))
  rw [← hV];clear hV cK cM k1 k2;refine (iM B r p X _ ⟨9, 0, mf, r.dp, 0, 0, ⟨#[]⟩⟩ none [] 0 _ BZ.out S0.out.has (jb _ _ _ _ _ _) (fun q hq x x' _ hx' => by simp at hx') (Nat.zero_le _) (fun i s hs => by simp at hs)).mono ?_;obtain ⟨r1, hr1⟩ : ∃ r1, r1 = dw r ⟨9, 0, mf, r.dp, 0, 0, ⟨#[]⟩⟩ [] := ⟨_, rfl⟩
  rw [← hr1] at FIN ⊢;clear hr1;rintro e w1 ⟨p1, X1, c1, rfl, has1, hb1, ot1⟩;obtain ⟨_, _, z1, _⟩ := S0.out.call has1 hb1 ot1;have OUT := hid (S0.out.out HB.out has1 hb1 ot1);clear has1 hb1 ot1;go_wp2_with ((with_reducible refine af (w.heap.size + 1 + 1) bP (au r1 p1) rfl rfl ?_ ?_ ?_ ?_ ?_); rfl; rfl; exact z1; simp [Value.oneCell']);have hz := setRow_heap _ (w.heap.size + 1 + 1) _ (au r1 p1) _ _ z1;refine az (ty := 31) Try.results109 (w.heap.size + 1 + 1) (au r1 p1) _ ?_ ?_ hz Try.underlying31 rfl (by kernel_rfl) ?_
  ·rfl
  ·rfl
  rw [FIN.out];exact OUT.out
 have u1 : decide (mb ≤ r.dp) = false := decide_eq_false g1;have FIN := hid (show rO r ⟨1, mf, mt, mb, mi, mn, mx⟩ = dw (bJ r mb) ⟨2, 0, mf, mb, 0, 0, ⟨#[]⟩⟩ (bJ r mb).ds by unfold rO; rw [if_neg g1]);go_enter Try.func109, Try.ntmps109
 go_wp2_with (first
  | ((with_reducible refine ah w.heap.size (au r p) rfl ?_ ?_ ?_); rfl; exact k1))
 rw [← hV];clear hV cK cM k1 k2;refine (sQ B r p X _ mb _ BZ.out S0.out.has).mono ?_;obtain ⟨r1, hr1⟩ : ∃ x, x = bJ r mb := ⟨_, rfl⟩
 rw [← hr1];have ER1 := hid hr1;clear hr1;rintro e w1 ⟨p1, X1, c1, rfl, has1, hb1, ot1⟩;obtain ⟨kk, _, _, _⟩ := S0.out.call has1 hb1 ot1;have SN1 := hid (S0.out.next HB.out has1 hb1 ot1);clear has1 hb1 ot1;obtain ⟨W1, hW1⟩ : ∃ v, v = w1.setRow w.heap.size (au r1 p1) := ⟨_, rfl⟩
 rw [← hW1] at SN1;have cK := SN1.out.k.cell;have fK := SN1.out.k.free;have cM := SN1.out.ms.cell;have k1 := SN1.out.k;have k2 := SN1.out.z;have BZ1 := hid (show B ≤ W1.heap.size from Nat.le_trans HB.out (by have := k2.lt; omega));rw [hW1] at cK fK cM k1 k2;go_wp2_with ((with_reducible refine af w.heap.size (au r p) (au r1 p1) rfl rfl ?_ ?_ ?_ ?_ ?_); rfl; rfl; exact kk; simp [Value.oneCell']);rw [← hW1];clear hW1 cK fK cM k1 k2 kk;try simp only [qq]
 have hK0 : zY w.heap.size (au r1 p1) (bU ⟨1, mf, mt, mb, mi, mn, mx⟩ mv) W1 := ⟨SN1.out.k, SN1.out.ms⟩
 refine aI (S := zY w.heap.size (au r1 p1) (bU ⟨1, mf, mt, mb, mi, mn, mx⟩ mv)) 11 (by kernel_rfl) hK0.drew (fun q9 => ?_);simp only [qz, Nat.reduceAdd];clear hK0;refine dO (i := 0) (v := .agg (au r1 p1)) (ax rfl) (by kernel_rfl) (by kernel_rfl) (by kernel_rfl) (by kernel_rfl) (fun _ _ _ h => h) (gG (fun w9 hS => hS.blk) rfl (by rfl) _ rfl rfl) q9 ?_;try simp only [qq]
 refine bg.go [1, 2, 3, 4, 5, 6, 7] ?_;iterate 7 (apply bg.take (ax rfl) (by kernel_rfl) (by rfl) (fun _ _ _ h => h) q9; (· intro w9 hSw; have hq := hSw.blk.cell; have hm := hSw.bm.cell; clear hSw; go_simp; try with_reducible rfl); try simp only [qq])
 refine bg.fin ?_;refine aT 8 fun K hK => ?_
 go_simp;have SD := hid (SN1.out.ext HB.out (show Below W1.heap.size W1 W1.drew from (Below.refl _ _).drew));refine (mV p1.aD r1.ds r1.ds.length p1.cD W1.drew rfl (by rw [ER1.out, sJ]; exact HH.out.lD) SD.out.has.d.plain.1 SD.out.has.d.plain.2 SD.out.has.at.hD).mono ?_;rintro e v8 ⟨g8, c8, rfl, hg8, ow8, hb8⟩;have S8 := hid (SD.out.ext HB.out hb8);have Z8 := hid (aZ.mk' ow8);have G8 := hid (show W1.heap.size ≤ g8 ∧ g8 < v8.heap.size from ⟨hg8, (ow8.lt g8 rfl).2⟩);have LL8 := hid (show W1.heap.size ≤ v8.heap.size from Nat.le_trans G8.out.1 (Nat.le_of_lt G8.out.2));have HF8 := hid (show aG B v8 r1 p1 X1 (dm W1.heap.size c1) from SN1.out.has.fresh.ext (show Below W1.heap.size W1 v8 from (show Below W1.heap.size W1 W1.drew from (Below.refl _ _).drew).trans hb8));clear ow8 hg8;go_wp2_with fail;refine hK.out _ _ ⟨S8.out.k, S8.out.ms⟩ (fun hNew => ?_);clear hK K q9 hb8;have q9 := hNew;clear hNew;try simp only [qq]
 refine bg.go [9] ?_;iterate 1 (apply bg.take (ax rfl) (by kernel_rfl) (by rfl) (fun _ _ _ h => h) q9; (· intro w9 hSw; have hq := hSw.blk.cell; have hm := hSw.bm.cell; clear hSw; go_simp; try with_reducible rfl); try simp only [qq])
 refine bg.fin ?_;refine aT 10 fun K hK => ?_
 go_simp
 have CP := hid (show ∀ b, b < W1.heap.size → dM (some ⟨g8, 0, none⟩) 7 (dm W1.heap.size c1) b = c1 b from fun b hb => by
  unfold dM;rw [if_neg (by simp only [Option.map_some, Option.some.injEq]; have := G8.out.1; omega)]
  exact bn hb)
 have HP := hid (HF8.out.kG (u := 7) (a' := some ⟨g8, 0, none⟩) (fun x hx => by simp only [Option.some.injEq] at hx; rw [← hx]; rw [bI G8.out.1]; omega))
 have SP := hid (show BS B w col ⟨1, mf, mt, mb, mi, mn, mx⟩ mv r1 p1 X1 (dM (some ⟨g8, 0, none⟩) 7 (dm W1.heap.size c1)) v8 from
  ⟨S8.out.k, S8.out.ms, S8.out.z, HP.out, by rw [CP.out _ SN1.out.k.lt]; exact SN1.out.c0, by rw [CP.out _ SN1.out.ms.lt]; exact SN1.out.c1, by rw [CP.out _ SN1.out.z.lt]; exact SN1.out.c2, S8.out.bel, fun b hb h8 => ⟨(S8.out.oth b hb h8).1, by rw [CP.out b (by have := SN1.out.z.lt; omega)]; exact (SN1.out.oth b hb h8).2⟩⟩)
 refine (iM B r1 p1 X1 (dM (some ⟨g8, 0, none⟩) 7 (dm W1.heap.size c1)) ⟨2, 0, mf, mb, 0, 0, ⟨#[]⟩⟩ (some ⟨g8, 0, none⟩) r1.ds c8 v8 (Nat.le_trans HB.out (by have := SP.out.z.lt; omega)) SP.out.has ((aO.mk (B := W1.heap.size) Z8.out.own (fun x hx => iL hx)).low (Nat.le_trans HB.out (by have := SN1.out.z.lt; omega))) (fun q hq x x' hx hx' e => by
  simp only [Option.some.injEq] at hx';have h1 := (HP.out.hi.row q hq).lt x hx;have h2 := (SN1.out.has.hi.row q hq).lt x hx;rw [e, ← hx'] at h2;have := G8.out.1;have h3 : g8 < W1.heap.size := h2.2
  omega) (Nat.zero_le _) SP.out.has.gd.d).mono ?_
 obtain ⟨r9, hr9⟩ : ∃ x, x = dw r1 ⟨2, 0, mf, mb, 0, 0, ⟨#[]⟩⟩ r1.ds := ⟨_, rfl⟩
 rw [← hr9];have FI4 := hid (show rO r ⟨1, mf, mt, mb, mi, mn, mx⟩ = r9 by rw [FIN.out, ← ER1.out, hr9]);clear hr9;rintro e w9 ⟨p9, X9, c9, rfl, has9, hb9, ot9⟩;obtain ⟨kk9, mm9, z9, _⟩ := SP.out.call has9 hb9 ot9;have OUT := hid (SP.out.out HB.out has9 hb9 ot9);clear has9 hb9 ot9;go_wp2_with fail;refine hK.out _ _ ⟨kk9, mm9⟩ (fun _ => ?_);clear hK K q9;try simp only [qq]
 refine aJ fun K hK => ?_
 rw [if_pos (by rfl)];refine wp_store_row 31 _ _ rfl (w.heap.size + 1 + 1) (au r9 p9) rfl rfl 31 bP z9 (by kernel_rfl) rfl (by simp [Value.oneCell']) ?_;refine hK.out _ _ ?_;clear hK K;go_wp2_with fail;have hz := setRow_heap _ (w.heap.size + 1 + 1) _ (au r9 p9) _ _ z9;refine az (ty := 31) Try.results109 (w.heap.size + 1 + 1) (au r9 p9) _ ?_ ?_ hz Try.underlying31 rfl (by kernel_rfl) ?_
 ·rfl
 ·rfl
 rw [FI4.out];exact OUT.out
def qB (r : Rc) (f b : Int) (l : List Sl) : Rc := if r.tr = true ∧ b = r.ball then jl r f l else r
theorem EO (B : Nat) (r : Rc) (p : fU) (X : iU) (col : Nat → Nat) (mf mt mb mi mn : Int) (mx : ByteArray) (al : Option Addr) (l : List Sl) (cl : Nat) (w : World) (hB : B ≤ w.heap.size) (hd0 : 0 ≤ r.dk) (hS : bD r) (hl : l.length ≤ 1048576) (hy : r.yes.length ≤ 100000) (hbw : ny r.ball) (hf : ny mf) (hsl : cO w al l) (h : aG B w r p X col) :
  Calls Try.prog 109 #[.agg (au r p), .agg (bU ⟨2, mf, mt, mb, mi, mn, mx⟩ (.slice al l.length cl))] w (jH B w col (qB r mf mb l)) := by
 have HB := hid hB;have HH := hid (show 0 ≤ r.dk ∧ bD r ∧ l.length ≤ 1048576 ∧ r.yes.length ≤ 100000 ∧ ny r.ball ∧ ny mf from ⟨hd0, hS, hl, hy, hbw, hf⟩);have SL := hid (hsl.ext (show Below w.heap.size w (((w.alloc (.cells (au r p) 31)).alloc (.cells (bU ⟨2, mf, mt, mb, mi, mn, mx⟩ (.slice al l.length cl)) 49)).alloc (.cells bP 31)) from ae (ae (ae (Below.refl _ _) _) _) _));clear hd0 hS hl hy hbw hf hsl;obtain ⟨V, hV⟩ : ∃ V, V = ((w.alloc (.cells (au r p) 31)).alloc (.cells (bU ⟨2, mf, mt, mb, mi, mn, mx⟩ (.slice al l.length cl)) 49)).alloc (.cells bP 31) := ⟨_, rfl⟩
 have S0 := hid (show BS B w col ⟨2, mf, mt, mb, mi, mn, mx⟩ (.slice al l.length cl) r p X (dm w.heap.size col) V by rw [hV]; exact BS.start h hB);have BZ := hid (show B ≤ V.heap.size from Nat.le_trans HB.out (by have := S0.out.z.lt; omega));clear h hB;have cK := S0.out.k.cell;have cM := S0.out.ms.cell;have k1 := S0.out.k;have k2 := S0.out.z;rw [hV] at cK cM k1 k2;rw [← hV] at SL;cases ht : r.tr
 ·have FIN := hid (show qB r mf mb l = r by unfold qB; rw [if_neg (by rw [ht]; simp)]);go_enter Try.func109, Try.ntmps109
  go_wp2_with (first
   | ((with_reducible refine ah w.heap.size (au r p) rfl ?_ ?_ ?_); rfl; exact k1)
   | ((with_reducible refine af (w.heap.size + 1 + 1) bP (au r p) rfl rfl ?_ ?_ ?_ ?_ ?_); rfl; rfl; exact k2; simp [Value.oneCell']))
  have hz := setRow_heap _ (w.heap.size + 1 + 1) _ (au r p) _ _ k2;refine az (ty := 31) Try.results109 (w.heap.size + 1 + 1) (au r p) _ ?_ ?_ hz Try.underlying31 rfl (by kernel_rfl) ?_
  ·rfl
  ·rfl
  rw [FIN.out, ← hV];exact S0.out.same HB.out
 by_cases g1 : mb = r.ball
 ·have u1 : (mb == r.ball) = true := by rw [g1]; exact beq_self_eq_true _
  have FIN := hid (show qB r mf mb l = jl r mf l by unfold qB; rw [if_pos ⟨ht, g1⟩]);clear g1;go_enter Try.func109, Try.ntmps109
  go_wp2_with (first
   | ((with_reducible refine ah w.heap.size (au r p) rfl ?_ ?_ ?_); rfl; exact k1))
  rw [← hV];clear hV cK cM k1 k2;refine (tZ B r p X _ mf al l cl _ BZ.out HH.out.1 HH.out.2.1 HH.out.2.2.1 HH.out.2.2.2.1 HH.out.2.2.2.2.1 HH.out.2.2.2.2.2 SL.out S0.out.has).mono ?_;obtain ⟨r1, hr1⟩ : ∃ r1, r1 = jl r mf l := ⟨_, rfl⟩
  rw [← hr1] at FIN ⊢;clear hr1;rintro e w1 ⟨p1, X1, c1, rfl, has1, hb1, ot1⟩;obtain ⟨_, _, z1, _⟩ := S0.out.call has1 hb1 ot1;have OUT := hid (S0.out.out HB.out has1 hb1 ot1);clear has1 hb1 ot1;go_wp2_with ((with_reducible refine af (w.heap.size + 1 + 1) bP (au r1 p1) rfl rfl ?_ ?_ ?_ ?_ ?_); rfl; rfl; exact z1; simp [Value.oneCell']);have hz := setRow_heap _ (w.heap.size + 1 + 1) _ (au r1 p1) _ _ z1;refine az (ty := 31) Try.results109 (w.heap.size + 1 + 1) (au r1 p1) _ ?_ ?_ hz Try.underlying31 rfl (by kernel_rfl) ?_
  ·rfl
  ·rfl
  rw [FIN.out];exact OUT.out
 have u1 : (mb == r.ball) = false := beq_false_of_ne g1;have FIN := hid (show qB r mf mb l = r by unfold qB; rw [if_neg (fun q => g1 q.2)]);go_enter Try.func109, Try.ntmps109
 go_wp2_with (first
  | ((with_reducible refine ah w.heap.size (au r p) rfl ?_ ?_ ?_); rfl; exact k1)
  | ((with_reducible refine af (w.heap.size + 1 + 1) bP (au r p) rfl rfl ?_ ?_ ?_ ?_ ?_); rfl; rfl; exact k2; simp [Value.oneCell']))
 have hz := setRow_heap _ (w.heap.size + 1 + 1) _ (au r p) _ _ k2;refine az (ty := 31) Try.results109 (w.heap.size + 1 + 1) (au r p) _ ?_ ?_ hz Try.underlying31 rfl (by kernel_rfl) ?_
 ·rfl
 ·rfl
 rw [FIN.out, ← hV];exact S0.out.same HB.out
def iE (r : Rc) (m : gq) : Rc := if m.b < r.dp then dw r ⟨9, 0, m.f, r.dp, 0, 0, ⟨#[]⟩⟩ [] else if m.i < 1 ∨ m.b < 1 ∨ m.f = r.num then r else dw (if (bJ r m.b).dk < m.i then rC (bJ r m.b) m.i.toNat (m.b, m.x) else bJ r m.b) ⟨4, 0, m.f, m.b, m.i, 0, ⟨#[]⟩⟩ []
theorem Ej (B : Nat) (r : Rc) (p : fU) (X : iU) (col : Nat → Nat) (mf mt mb mi mn : Int) (mx : ByteArray) (mv : Value) (w : World) (hB : B ≤ w.heap.size) (hS : bD r) (hx : mx.size ≤ maxLen) (hb : ny mb) (hi : mi ≤ 1048576) (h : aG B w r p X col) :
  Calls Try.prog 109 #[.agg (au r p), .agg (bU ⟨3, mf, mt, mb, mi, mn, mx⟩ mv)] w (jH B w col (iE r ⟨3, mf, mt, mb, mi, mn, mx⟩)) := by
 have HB := hid hB;have HH := hid (show bD r ∧ mx.size ≤ maxLen ∧ ny mb ∧ mi ≤ 1048576 from ⟨hS, hx, hb, hi⟩);clear hS hx hb hi;obtain ⟨V, hV⟩ : ∃ V, V = ((w.alloc (.cells (au r p) 31)).alloc (.cells (bU ⟨3, mf, mt, mb, mi, mn, mx⟩ mv) 49)).alloc (.cells bP 31) := ⟨_, rfl⟩
 have S0 := hid (show BS B w col ⟨3, mf, mt, mb, mi, mn, mx⟩ mv r p X (dm w.heap.size col) V by rw [hV]; exact BS.start h hB);have BZ := hid (show B ≤ V.heap.size from Nat.le_trans HB.out (by have := S0.out.z.lt; omega));clear h hB;have cK := S0.out.k.cell;have cM := S0.out.ms.cell;have k1 := S0.out.k;have k2 := S0.out.z;rw [hV] at cK cM k1 k2;by_cases g1 : mb < r.dp
 ·have u1 : decide (mb < r.dp) = true := decide_eq_true g1;have FIN := hid (show iE r ⟨3, mf, mt, mb, mi, mn, mx⟩ = dw r ⟨9, 0, mf, r.dp, 0, 0, ⟨#[]⟩⟩ [] by unfold iE; rw [if_pos g1]);go_enter Try.func109, Try.ntmps109
  go_wp2_with (first
   | ((with_reducible refine ah w.heap.size (au r p) rfl ?_ ?_ ?_); rfl; exact k1)
   | ((with_reducible refine bH (ty := 49) (bU ⟨9, 0, mf, r.dp, 0, 0, ⟨#[]⟩⟩ (.slice none 0 0)) ?_ ?_); (· kernel_rfl)))
  rw [← hV];clear hV cK cM k1 k2;refine (iM B r p X _ ⟨9, 0, mf, r.dp, 0, 0, ⟨#[]⟩⟩ none [] 0 _ BZ.out S0.out.has (jb _ _ _ _ _ _) (fun q hq x x' _ hx' => by simp at hx') (Nat.zero_le _) (fun i s hs => by simp at hs)).mono ?_;obtain ⟨r1, hr1⟩ : ∃ r1, r1 = dw r ⟨9, 0, mf, r.dp, 0, 0, ⟨#[]⟩⟩ [] := ⟨_, rfl⟩
  rw [← hr1] at FIN ⊢;clear hr1;rintro e w1 ⟨p1, X1, c1, rfl, has1, hb1, ot1⟩;obtain ⟨_, _, z1, _⟩ := S0.out.call has1 hb1 ot1;have OUT := hid (S0.out.out HB.out has1 hb1 ot1);clear has1 hb1 ot1;go_wp2_with ((with_reducible refine af (w.heap.size + 1 + 1) bP (au r1 p1) rfl rfl ?_ ?_ ?_ ?_ ?_); rfl; rfl; exact z1; simp [Value.oneCell']);have hz := setRow_heap _ (w.heap.size + 1 + 1) _ (au r1 p1) _ _ z1;refine az (ty := 31) Try.results109 (w.heap.size + 1 + 1) (au r1 p1) _ ?_ ?_ hz Try.underlying31 rfl (by kernel_rfl) ?_
  ·rfl
  ·rfl
  rw [FIN.out];exact OUT.out
 have u1 : decide (mb < r.dp) = false := decide_eq_false g1;by_cases g2 : mi < 1
 ·have u2 : decide (mi < 1) = true := decide_eq_true g2;have FIN := hid (show iE r ⟨3, mf, mt, mb, mi, mn, mx⟩ = r by unfold iE; rw [if_neg g1, if_pos (.inl g2)]);go_enter Try.func109, Try.ntmps109
  go_wp2_with (first
   | ((with_reducible refine ah w.heap.size (au r p) rfl ?_ ?_ ?_); rfl; exact k1)
   | ((with_reducible refine af (w.heap.size + 1 + 1) bP (au r p) rfl rfl ?_ ?_ ?_ ?_ ?_); rfl; rfl; exact k2; simp [Value.oneCell']))
  have hz := setRow_heap _ (w.heap.size + 1 + 1) _ (au r p) _ _ k2;refine az (ty := 31) Try.results109 (w.heap.size + 1 + 1) (au r p) _ ?_ ?_ hz Try.underlying31 rfl (by kernel_rfl) ?_
  ·rfl
  ·rfl
  rw [FIN.out, ← hV];exact S0.out.same HB.out
 have u2 : decide (mi < 1) = false := decide_eq_false g2;by_cases g3 : mb < 1
 ·have u3 : decide (mb < 1) = true := decide_eq_true g3;have FIN := hid (show iE r ⟨3, mf, mt, mb, mi, mn, mx⟩ = r by unfold iE; rw [if_neg g1, if_pos (.inr (.inl g3))]);go_enter Try.func109, Try.ntmps109
  go_wp2_with (first
   | ((with_reducible refine ah w.heap.size (au r p) rfl ?_ ?_ ?_); rfl; exact k1)
   | ((with_reducible refine af (w.heap.size + 1 + 1) bP (au r p) rfl rfl ?_ ?_ ?_ ?_ ?_); rfl; rfl; exact k2; simp [Value.oneCell']))
  have hz := setRow_heap _ (w.heap.size + 1 + 1) _ (au r p) _ _ k2;refine az (ty := 31) Try.results109 (w.heap.size + 1 + 1) (au r p) _ ?_ ?_ hz Try.underlying31 rfl (by kernel_rfl) ?_
  ·rfl
  ·rfl
  rw [FIN.out, ← hV];exact S0.out.same HB.out
 have u3 : decide (mb < 1) = false := decide_eq_false g3;by_cases g4 : mf = r.num
 ·have u4 : (mf == r.num) = true := by rw [g4]; exact beq_self_eq_true _
  have FIN := hid (show iE r ⟨3, mf, mt, mb, mi, mn, mx⟩ = r by unfold iE; rw [if_neg g1, if_pos (.inr (.inr g4))]);clear g4;go_enter Try.func109, Try.ntmps109
  go_wp2_with (first
   | ((with_reducible refine ah w.heap.size (au r p) rfl ?_ ?_ ?_); rfl; exact k1)
   | ((with_reducible refine af (w.heap.size + 1 + 1) bP (au r p) rfl rfl ?_ ?_ ?_ ?_ ?_); rfl; rfl; exact k2; simp [Value.oneCell']))
  have hz := setRow_heap _ (w.heap.size + 1 + 1) _ (au r p) _ _ k2;refine az (ty := 31) Try.results109 (w.heap.size + 1 + 1) (au r p) _ ?_ ?_ hz Try.underlying31 rfl (by kernel_rfl) ?_
  ·rfl
  ·rfl
  rw [FIN.out, ← hV];exact S0.out.same HB.out
 have u4 : (mf == r.num) = false := beq_false_of_ne g4;have FIN := hid (show iE r ⟨3, mf, mt, mb, mi, mn, mx⟩ = dw (if (bJ r mb).dk < mi then rC (bJ r mb) mi.toNat (mb, mx) else bJ r mb) ⟨4, 0, mf, mb, mi, 0, ⟨#[]⟩⟩ [] by unfold iE; rw [if_neg g1, if_neg (fun q => q.elim g2 (fun q => q.elim g3 g4))]);have DQ := hid (show r.ds.length ≤ 1048576 from HH.out.1.lD);go_enter Try.func109, Try.ntmps109
 go_wp2_with (first
  | ((with_reducible refine ah w.heap.size (au r p) rfl ?_ ?_ ?_); rfl; exact k1))
 rw [← hV];clear hV cK cM k1 k2;refine (sQ B r p X _ mb _ BZ.out S0.out.has).mono ?_;obtain ⟨r1, hr1⟩ : ∃ x, x = bJ r mb := ⟨_, rfl⟩
 rw [← hr1];have ER1 := hid hr1;clear hr1;rintro e w1 ⟨p1, X1, c1, rfl, has1, hb1, ot1⟩;obtain ⟨kk, _, _, _⟩ := S0.out.call has1 hb1 ot1;have SN1 := hid (S0.out.next HB.out has1 hb1 ot1);clear has1 hb1 ot1;obtain ⟨W1, hW1⟩ : ∃ v, v = w1.setRow w.heap.size (au r1 p1) := ⟨_, rfl⟩
 rw [← hW1] at SN1;have cK := SN1.out.k.cell;have fK := SN1.out.k.free;have cM := SN1.out.ms.cell;have k1 := SN1.out.k;have k2 := SN1.out.z;have BZ1 := hid (show B ≤ W1.heap.size from Nat.le_trans HB.out (by have := k2.lt; omega));rw [hW1] at cK fK cM k1 k2;by_cases g5 : r1.dk < mi
 ·have u5 : decide (r1.dk < mi) = true := decide_eq_true g5;obtain ⟨q, hq⟩ : ∃ q : Nat, mi = ((q + 1 : Nat) : Int) := ⟨mi.toNat - 1, by omega⟩
  have QL := hid (show q ≤ 1048576 by have := HH.out.2.2.2; omega);have HQ := hid hq;clear hq
  go_wp2_with (first
   | ((with_reducible refine af w.heap.size (au r p) (au r1 p1) rfl rfl ?_ ?_ ?_ ?_ ?_); rfl; rfl; exact kk; simp [Value.oneCell'])
   | ((with_reducible refine ah w.heap.size (au r1 p1) rfl ?_ ?_ ?_); rfl; exact k1)
   | ((with_reducible refine bH (ty := 43) #[.int .i64 mb, .string mx] ?_ ?_); (· kernel_rfl)))
  rw [← hW1, HQ.out];clear hW1 cK fK cM k1 k2 kk;refine (vX B r1 p1 X1 c1 q (mb, mx) _ BZ1.out QL.out (by rw [ER1.out, sJ]; exact DQ.out) ⟨HH.out.2.1, HH.out.2.2.1⟩ SN1.out.has).mono ?_;obtain ⟨r2, hr2⟩ : ∃ x, x = rC r1 (q + 1) (mb, mx) := ⟨_, rfl⟩
  rw [← hr2];have ER2 := hid hr2;clear hr2;rintro e w2 ⟨p2, X2, c2, rfl, has2, hb2, ot2⟩;obtain ⟨kk, _, _, _⟩ := SN1.out.call has2 hb2 ot2;have SN2 := hid (SN1.out.next HB.out has2 hb2 ot2);clear has2 hb2 ot2;obtain ⟨W2, hW2⟩ : ∃ v, v = w2.setRow w.heap.size (au r2 p2) := ⟨_, rfl⟩
  rw [← hW2] at SN2;have cK := SN2.out.k.cell;have fK := SN2.out.k.free;have cM := SN2.out.ms.cell;have k1 := SN2.out.k;have k2 := SN2.out.z;have BZ2 := hid (show B ≤ W2.heap.size from Nat.le_trans HB.out (by have := k2.lt; omega));rw [hW2] at cK fK cM k1 k2;have FI4 := hid (show iE r ⟨3, mf, mt, mb, mi, mn, mx⟩ = dw r2 ⟨4, 0, mf, mb, mi, 0, ⟨#[]⟩⟩ [] by rw [FIN.out, ← ER1.out, if_pos g5, HQ.out, Int.toNat_natCast, ← ER2.out])
  go_wp2_with (first
   | ((with_reducible refine af w.heap.size (au r1 p1) (au r2 p2) rfl rfl ?_ ?_ ?_ ?_ ?_); rfl; rfl; exact kk; simp [Value.oneCell'])
   | ((with_reducible refine ah w.heap.size (au r2 p2) rfl ?_ ?_ ?_); rfl; exact k1)
   | ((with_reducible refine bH (ty := 49) (bU ⟨4, 0, mf, mb, mi, 0, ⟨#[]⟩⟩ (.slice none 0 0)) ?_ ?_); (· kernel_rfl)))
  rw [← hW2];clear cK fK cM k1 k2 kk;refine (iM B r2 p2 X2 c2 ⟨4, 0, mf, mb, mi, 0, ⟨#[]⟩⟩ none [] 0 _ BZ2.out SN2.out.has (jb _ _ _ _ _ _) (fun q hq x x' _ hx' => by simp at hx') (Nat.zero_le _) (fun i s hs => by simp at hs)).mono ?_;obtain ⟨r9, hr9⟩ : ∃ x, x = dw r2 ⟨4, 0, mf, mb, mi, 0, ⟨#[]⟩⟩ [] := ⟨_, rfl⟩
  rw [← hr9] at FI4 ⊢;clear hr9;rintro e w9 ⟨p9, X9, c9, rfl, has9, hb9, ot9⟩;obtain ⟨_, _, z9, _⟩ := SN2.out.call has9 hb9 ot9;have OUT := hid (SN2.out.out HB.out has9 hb9 ot9);clear has9 hb9 ot9;go_wp2_with ((with_reducible refine af (w.heap.size + 1 + 1) bP (au r9 p9) rfl rfl ?_ ?_ ?_ ?_ ?_); rfl; rfl; exact z9; simp [Value.oneCell']);have hz := setRow_heap _ (w.heap.size + 1 + 1) _ (au r9 p9) _ _ z9;refine az (ty := 31) Try.results109 (w.heap.size + 1 + 1) (au r9 p9) _ ?_ ?_ hz Try.underlying31 rfl (by kernel_rfl) ?_
  ·rfl
  ·rfl
  rw [FI4.out];exact OUT.out
 have u5 : decide (r1.dk < mi) = false := decide_eq_false g5;have FI4 := hid (show iE r ⟨3, mf, mt, mb, mi, mn, mx⟩ = dw r1 ⟨4, 0, mf, mb, mi, 0, ⟨#[]⟩⟩ [] by rw [FIN.out, ← ER1.out, if_neg g5])
 go_wp2_with (first
  | ((with_reducible refine af w.heap.size (au r p) (au r1 p1) rfl rfl ?_ ?_ ?_ ?_ ?_); rfl; rfl; exact kk; simp [Value.oneCell'])
  | ((with_reducible refine ah w.heap.size (au r1 p1) rfl ?_ ?_ ?_); rfl; exact k1)
  | ((with_reducible refine bH (ty := 49) (bU ⟨4, 0, mf, mb, mi, 0, ⟨#[]⟩⟩ (.slice none 0 0)) ?_ ?_); (· kernel_rfl)))
 rw [← hW1];clear cK fK cM k1 k2 kk;refine (iM B r1 p1 X1 c1 ⟨4, 0, mf, mb, mi, 0, ⟨#[]⟩⟩ none [] 0 _ BZ1.out SN1.out.has (jb _ _ _ _ _ _) (fun q hq x x' _ hx' => by simp at hx') (Nat.zero_le _) (fun i s hs => by simp at hs)).mono ?_;obtain ⟨r9, hr9⟩ : ∃ x, x = dw r1 ⟨4, 0, mf, mb, mi, 0, ⟨#[]⟩⟩ [] := ⟨_, rfl⟩
 rw [← hr9] at FI4 ⊢;clear hr9;rintro e w9 ⟨p9, X9, c9, rfl, has9, hb9, ot9⟩;obtain ⟨_, _, z9, _⟩ := SN1.out.call has9 hb9 ot9;have OUT := hid (SN1.out.out HB.out has9 hb9 ot9);clear has9 hb9 ot9;go_wp2_with ((with_reducible refine af (w.heap.size + 1 + 1) bP (au r9 p9) rfl rfl ?_ ?_ ?_ ?_ ?_); rfl; rfl; exact z9; simp [Value.oneCell']);have hz := setRow_heap _ (w.heap.size + 1 + 1) _ (au r9 p9) _ _ z9;refine az (ty := 31) Try.results109 (w.heap.size + 1 + 1) (au r9 p9) _ ?_ ?_ hz Try.underlying31 rfl (by kernel_rfl) ?_
 ·rfl
 ·rfl
 rw [FI4.out];exact OUT.out
end Go.Proofs.Ytjdceoimignnpaa
