import Derived.Test.YtjdceoimignnpaaF29
import Derived.Test.YtjdceoimignnpaaF30
namespace Go.Proofs.Ytjdceoimignnpaa
open Go.ChangeShapes Go.WideShapes Go.ChangeAt Go.RowKit
set_option linter.unusedVariables false
set_option linter.unusedSimpArgs false
variable {t : ByteArray} {r : Rc}
/-- a recorder is answered, its lists in blocks of their own -/
def LZ (B : Nat) (w : World) (r' : Rc) (X : iU) (e : Ending) (w' : World) : Prop := ∃ p' col', e = .returned (.agg (au r' p')) ∧ aG B w' r' p' X col' ∧ Below B w w'
set_option maxHeartbeats 16000000 in
set_option maxRecDepth 20000 in
theorem DI (B : Nat) (r : Rc) (p : fU) (X : iU) (col : Nat → Nat) (t : ByteArray) (w : World) (hB : B ≤ w.heap.size) (hk0 : 0 ≤ r.dk) (hk1 : r.dk ≤ r.ds.length) (hw : r.wish.length ≤ 1048576) (ht : t.size ≤ 1048576) (h : aG B w r p X col) :
  Calls Try.prog 101 #[.agg (au r p), .string t] w (LZ B w (iC r t) X) := by
 obtain ⟨aS, cS, aD, cD, aH, cH, aW, cW, aY, cY, aB, cB, aA, cA⟩ := p;have RD := hid h.fresh;have HBs := hid hB;obtain ⟨k, hk9⟩ : ∃ k : Nat, r.dk = (k : Int) := ⟨r.dk.toNat, by omega⟩
 have hkn : k ≤ r.ds.length := by omega
 have TK := hid (show r.dk.toNat = k by omega);have HK := hid hk9;have hkc : k ≤ cD := Nat.le_trans hkn RD.out.d.len.2;clear h hk0 hk1 hB;obtain ⟨V, hV⟩ : ∃ V, V = (w.alloc (.cells (au r ⟨aS, cS, aD, cD, aH, cH, aW, cW, aY, cY, aB, cB, aA, cA⟩) 31)).alloc (.cells bP 31) := ⟨_, rfl⟩
 have BV := hid (show Below w.heap.size w V by rw [hV]; exact ae (ae (Below.refl _ _) _) _);have K1 := hid (show aC V w.heap.size (au r ⟨aS, cS, aD, cD, aH, cH, aW, cW, aY, cY, aB, cB, aA, cA⟩) 31 by rw [hV]; exact (aC.new _ _ _).alloc _);have K2 := hid (show aC V (w.heap.size + 1) bP 31 by rw [hV]; exact aC.new' _ _ (by simp));have c7 := (K1.out.cell 7).trans (show (au r ⟨aS, cS, aD, cD, aH, cH, aW, cW, aY, cY, aB, cB, aA, cA⟩)[7]? = some (Value.int .i64 (k : Int)) by rw [← hk9]; rfl);have c8 := (K1.out.cell 8).trans (show (au r ⟨aS, cS, aD, cD, aH, cH, aW, cW, aY, cY, aB, cB, aA, cA⟩)[8]? = some (Value.slice aD r.ds.length cD) from rfl);have c10 := (K1.out.cell 10).trans (show (au r ⟨aS, cS, aD, cD, aH, cH, aW, cW, aY, cY, aB, cB, aA, cA⟩)[10]? = some (Value.slice aW r.wish.length cW) from rfl);have k1 := K1.out;have k2 := K2.out;rw [hV] at c7 c8 c10 k1 k2;clear hk9;by_cases h1 : (t.size : Int) < 1
 ·have H1 := hid (Aj (r := r) h1);go_enter Try.func101, Try.ntmps101
  go_wp2_with (first
   | ((with_reducible refine ah w.heap.size (au r ⟨aS, cS, aD, cD, aH, cH, aW, cW, aY, cY, aB, cB, aA, cA⟩) rfl ?_ ?_ ?_); rfl; exact k1)
   | ((with_reducible refine af (w.heap.size + 1) bP (au r ⟨aS, cS, aD, cD, aH, cH, aW, cW, aY, cY, aB, cB, aA, cA⟩) rfl rfl ?_ ?_ ?_ ?_ ?_); rfl; rfl; exact k2; simp [Value.oneCell']))
  have hz := setRow_heap _ (w.heap.size + 1) _ (au r ⟨aS, cS, aD, cD, aH, cH, aW, cW, aY, cY, aB, cB, aA, cA⟩) _ _ k2;refine az (ty := 31) Try.results101 (w.heap.size + 1) (au r ⟨aS, cS, aD, cD, aH, cH, aW, cW, aY, cY, aB, cB, aA, cA⟩) _ ?_ ?_ hz Try.underlying31 rfl (by kernel_rfl) ?_
  ·rfl
  ·rfl
  rw [H1.out];rw [← hV];exact ⟨⟨aS, cS, aD, cD, aH, cH, aW, cW, aY, cY, aB, cB, aA, cA⟩, _, rfl, (RD.out.ext BV.out).setRow (by rw [bI (by omega)]; omega) _, ay (BV.out.mono HBs.out) (by have := HBs.out; omega) _⟩
 by_cases h2 : 100 < (t.size : Int)
 ·have H1 := hid (Bf (r := r) h2);go_enter Try.func101, Try.ntmps101
  go_wp2_with (first
   | ((with_reducible refine ah w.heap.size (au r ⟨aS, cS, aD, cD, aH, cH, aW, cW, aY, cY, aB, cB, aA, cA⟩) rfl ?_ ?_ ?_); rfl; exact k1)
   | ((with_reducible refine af (w.heap.size + 1) bP (au r ⟨aS, cS, aD, cD, aH, cH, aW, cW, aY, cY, aB, cB, aA, cA⟩) rfl rfl ?_ ?_ ?_ ?_ ?_); rfl; rfl; exact k2; simp [Value.oneCell']))
  have hz := setRow_heap _ (w.heap.size + 1) _ (au r ⟨aS, cS, aD, cD, aH, cH, aW, cW, aY, cY, aB, cB, aA, cA⟩) _ _ k2;refine az (ty := 31) Try.results101 (w.heap.size + 1) (au r ⟨aS, cS, aD, cD, aH, cH, aW, cW, aY, cY, aB, cB, aA, cA⟩) _ ?_ ?_ hz Try.underlying31 rfl (by kernel_rfl) ?_
  ·rfl
  ·rfl
  rw [H1.out];rw [← hV];exact ⟨⟨aS, cS, aD, cD, aH, cH, aW, cW, aY, cY, aB, cB, aA, cA⟩, _, rfl, (RD.out.ext BV.out).setRow (by rw [bI (by omega)]; omega) _, ay (BV.out.mono HBs.out) (by have := HBs.out; omega) _⟩
 by_cases h3 : (20 : Int) ≤ (r.wish.length : Int)
 ·have H1 := hid (Aa (t := t) h3);go_enter Try.func101, Try.ntmps101
  go_wp2_with (first
   | ((with_reducible refine ah w.heap.size (au r ⟨aS, cS, aD, cD, aH, cH, aW, cW, aY, cY, aB, cB, aA, cA⟩) rfl ?_ ?_ ?_); rfl; exact k1)
   | ((with_reducible refine af (w.heap.size + 1) bP (au r ⟨aS, cS, aD, cD, aH, cH, aW, cW, aY, cY, aB, cB, aA, cA⟩) rfl rfl ?_ ?_ ?_ ?_ ?_); rfl; rfl; exact k2; simp [Value.oneCell']))
  have hz := setRow_heap _ (w.heap.size + 1) _ (au r ⟨aS, cS, aD, cD, aH, cH, aW, cW, aY, cY, aB, cB, aA, cA⟩) _ _ k2;refine az (ty := 31) Try.results101 (w.heap.size + 1) (au r ⟨aS, cS, aD, cD, aH, cH, aW, cW, aY, cY, aB, cB, aA, cA⟩) _ ?_ ?_ hz Try.underlying31 rfl (by kernel_rfl) ?_
  ·rfl
  ·rfl
  rw [H1.out];rw [← hV];exact ⟨⟨aS, cS, aD, cD, aH, cH, aW, cW, aY, cY, aB, cB, aA, cA⟩, _, rfl, (RD.out.ext BV.out).setRow (by rw [bI (by omega)]; omega) _, ay (BV.out.mono HBs.out) (by have := HBs.out; omega) _⟩
 go_enter Try.func101, Try.ntmps101;go_wp2_with ((with_reducible refine pR aD r.ds.length cD k ?_ ?_ ?_ ?_ ?_ ?_); rfl; rfl; rfl; exact hkc; exact RD.out.d.plain.1);rw [← hV];clear c7 c8 c10 k1 k2;have LT := hid (show (r.ds.take k).length = k by rw [List.length_take]; omega);refine (oG aD (r.ds.take k) k cD t _ LT.out (Nat.le_trans hkn RD.out.at.lD) ((RD.out.ext BV.out).at.hD.take k)).mono ?_;rintro e w1 ⟨rfl, hb1⟩;have B1 := hid (aj BV.out hb1);have K1b := hid (K1.out.ext hb1);have K2b := hid (K2.out.ext hb1);clear hb1 K1 K2 hV BV;have k1 := K1b.out;have k2 := K2b.out;cases h4 : iw (r.ds.take k) t
 case true =>
  have H1 := hid (Bh (r := r) (t := t) (by rw [TK.out]; exact h4))
  go_wp2_with (first
   | ((with_reducible refine ah w.heap.size (au r ⟨aS, cS, aD, cD, aH, cH, aW, cW, aY, cY, aB, cB, aA, cA⟩) rfl ?_ ?_ ?_); rfl; exact k1)
   | ((with_reducible refine af (w.heap.size + 1) bP (au r ⟨aS, cS, aD, cD, aH, cH, aW, cW, aY, cY, aB, cB, aA, cA⟩) rfl rfl ?_ ?_ ?_ ?_ ?_); rfl; rfl; exact k2; simp [Value.oneCell']))
  have hz := setRow_heap _ (w.heap.size + 1) _ (au r ⟨aS, cS, aD, cD, aH, cH, aW, cW, aY, cY, aB, cB, aA, cA⟩) _ _ k2;refine az (ty := 31) Try.results101 (w.heap.size + 1) (au r ⟨aS, cS, aD, cD, aH, cH, aW, cW, aY, cY, aB, cB, aA, cA⟩) _ ?_ ?_ hz Try.underlying31 rfl (by kernel_rfl) ?_
  ·rfl
  ·rfl
  rw [H1.out];exact ⟨⟨aS, cS, aD, cD, aH, cH, aW, cW, aY, cY, aB, cB, aA, cA⟩, _, rfl, (RD.out.ext B1.out).setRow (by rw [bI (by omega)]; omega) _, ay (B1.out.mono HBs.out) (by have := HBs.out; omega) _⟩
 have H4 := hid (show iw (r.ds.take r.dk.toNat) t = false by rw [TK.out]; exact h4);clear h4;have c10 := (K1b.out.cell 10).trans (show (au r ⟨aS, cS, aD, cD, aH, cH, aW, cW, aY, cY, aB, cB, aA, cA⟩)[10]? = some (Value.slice aW r.wish.length cW) from rfl);go_wp2_with fail;go_loopw [5] (fun i wr => ∃ (j : Nat), j ≤ r.wish.length ∧ i = .int .i64 j ∧ (∀ (q : Nat) u, q < j → r.wish[q]? = some u → jd u t = false) ∧ Below w1.heap.size w1 wr) (fun i _ => r.wish.length - (intOf i).toNat);case atStart => exact ⟨0, Nat.zero_le _, rfl, fun q u hq => absurd hq (by omega), Below.refl _ _⟩
 case round =>
  obtain ⟨j, hj, rfl, hin0, hbel0⟩ := hrel;have hin := hid hin0;have hbel := hid hbel0;clear hin0 hbel0 k1 k2 c10;have B2 := hid (aj B1.out hbel.out);have k1 := K1b.out.ext hbel.out;have k2 := K2b.out.ext hbel.out;by_cases hlt : j < r.wish.length
  ·obtain ⟨u, hs0⟩ : ∃ s, r.wish[j]? = some s := ⟨_, List.getElem?_eq_getElem hlt⟩
   have hs := hid hs0;obtain ⟨b, off, e0, hb1, c0, _⟩ := ((RD.out.ext B2.out).at.hW) j u hs0;dsimp only at e0;have c10 : wr.cell? ⟨w.heap.size, 10, none⟩ = some (.slice (some ⟨b, off, none⟩) r.wish.length cW) := by rw [k1.cell 10, ← e0]; rfl
   have E0 := hid e0;clear hs0 e0;have e1 : (0 : Int) ≤ (j : Int) := by omega
   have e2 : (j : Int) < (r.wish.length : Int) := by omega
   cases hq : jd u t
   ·have hq' : (u.toList == t.toList) = false := hq;have HQ := hid hq;clear hq;go_wp2;go_roundw;case rel =>
     refine ⟨j + 1, by omega, by go_num, fun q v hq hv => ?_, hbel.out⟩;by_cases he : q = j
     ·subst he; rw [hs.out] at hv; simp only [Option.some.injEq] at hv; rw [← hv]; exact HQ.out
     ·exact hin.out q v (by omega) hv
    case measure => simp [intOf]; omega
   ·have hq' : (u.toList == t.toList) = true := hq;have H1 := hid (Ad (Bi hs.out hq));clear hq
    go_wp2_with (first
     | ((with_reducible refine ah w.heap.size (au r ⟨aS, cS, aD, cD, aH, cH, aW, cW, aY, cY, aB, cB, aA, cA⟩) rfl ?_ ?_ ?_); rfl; exact k1)
     | ((with_reducible refine af (w.heap.size + 1) bP (au r ⟨aS, cS, aD, cD, aH, cH, aW, cW, aY, cY, aB, cB, aA, cA⟩) rfl rfl ?_ ?_ ?_ ?_ ?_); rfl; rfl; exact k2; simp [Value.oneCell']))
    have hz := setRow_heap _ (w.heap.size + 1) _ (au r ⟨aS, cS, aD, cD, aH, cH, aW, cW, aY, cY, aB, cB, aA, cA⟩) _ _ k2;refine az (ty := 31) Try.results101 (w.heap.size + 1) (au r ⟨aS, cS, aD, cD, aH, cH, aW, cW, aY, cY, aB, cB, aA, cA⟩) _ ?_ ?_ hz Try.underlying31 rfl (by kernel_rfl) ?_
    ·rfl
    ·rfl
    rw [H1.out];exact ⟨⟨aS, cS, aD, cD, aH, cH, aW, cW, aY, cY, aB, cB, aA, cA⟩, _, rfl, (RD.out.ext B2.out).setRow (by rw [bI (by omega)]; omega) _, ay (B2.out.mono HBs.out) (by have := HBs.out; omega) _⟩
  ·have hjj : j = r.wish.length := by omega
   subst hjj;have H5 := hid (Du (t := t) (l := r.wish) (fun i u hi hu => hin.out i u hi hu));have H1 := hid (zU (by omega) (by omega) (by omega) H4.out H5.out);have HT := hid (show okS t by unfold okS maxLen; omega);have c10 := (k1.cell 10).trans (show (au r ⟨aS, cS, aD, cD, aH, cH, aW, cW, aY, cY, aB, cB, aA, cA⟩)[10]? = some (Value.slice aW r.wish.length cW) from rfl);have OW := hid ((RD.out.ext (ae B2.out (.cells #[.string t] 9))).t.own)
   have WNE := hid (show ∀ b, w.heap.size ≤ b → some b ≠ (Value.slice aW r.wish.length cW).ownBlock from fun b hle e => by
    have h9 := RD.out.t.own.lt b e.symm
    omega)
   have WB := hid (show ∀ j, (Value.slice aW r.wish.length cW).ownBlock = some j → B ≤ j from fun j hj => (RD.out.t.own.lt j hj).1)
   have NEWS := hid (show aN (wr.alloc (.cells #[.string t] 9)) (some ⟨wr.heap.size, 0, none⟩) 1 1 1 [.string t] from
    ⟨rfl, fun e => by simp at e, fun x hx => by
     simp only [Option.some.injEq] at hx;subst hx
     exact ⟨rfl, dG (aC.new wr #[.string t] 9)⟩⟩)
   go_wp2_with (first
    | ((with_reducible refine nI B aW r.wish.length cW (fH r.wish) (some ⟨wr.heap.size, 0, none⟩) 1 1 [.string t] ?_ ?_ ?_ ?_ ?_ ?_ ?_ ?_); rfl; rfl; exact OW.out; exact NEWS.out; (· intro u hu; simp at hu; subst hu; rfl); (· omega); (· have h9 := HBs.out; have h8 := B2.out.size; simp; omega); (intro a' c' w2 q1 q2 q3); (have KB := hid (show ∀ b C T, aC (wr.alloc (.cells #[.string t] 9)) b C T → w.heap.size ≤ b → aC w2 b C T from fun b C T hb hle => (q2.block b hb.lt (WNE.out b hle)).trans hb)); (have K1c := hid (KB.out _ _ _ (k1.alloc (.cells #[.string t] 9)) (Nat.le_refl _))); (have K2c := hid (KB.out _ _ _ (k2.alloc (.cells #[.string t] 9)) (by omega))); (have HAS := hid (aG.Jw (RD.out.ext (ae B2.out (.cells #[.string t] 9))) (l := r.wish ++ [t]) q2 (by (simp only [List.length_append, List.length_cons, List.length_nil, fH, List.map_append, List.map_cons, List.map_nil]; exact q1)) q3 (xx RD.out.gd.t HT.out))); (have B3 := hid (below_grow ((ae B2.out (.cells #[.string t] 9)).mono HBs.out) q2 WB.out (by have h9 := HBs.out; have h8 := B2.out.size; simp; omega))); (have NW := hid (show ∀ x, a' = some x → x.block ≠ w.heap.size ∧ x.block ≠ w.heap.size + 1 from fun x hx => by (have h8 := B2.out.size; have h7 := k2.lt; rcases q3 x hx with ⟨y, hy, he⟩ | hnew; (· have h9 := (RD.out.t.lt y hy).2; omega); (· simp at hnew; omega)))); (clear q1 q2 q3 k1 k2 c10); (have eqC : (au { r with wish := r.wish ++ [t] } ⟨aS, cS, aD, cD, aH, cH, a', c', aY, cY, aB, cB, aA, cA⟩) = (au r ⟨aS, cS, aD, cD, aH, cH, aW, cW, aY, cY, aB, cB, aA, cA⟩).setIfInBounds 10 (.slice a' (r.wish.length + 1) c') := by simp); (have k1 : aC (w2.setCell ⟨w.heap.size, 10, none⟩ (.slice a' (r.wish.length + 1) c')) w.heap.size (au { r with wish := r.wish ++ [t] } ⟨aS, cS, aD, cD, aH, cH, a', c', aY, cY, aB, cB, aA, cA⟩) 31 := by (rw [eqC]; exact K1c.out.set (o := 10) (.slice a' (r.wish.length + 1) c'))); (clear eqC); (have k2 : aC (w2.setCell ⟨w.heap.size, 10, none⟩ (.slice a' (r.wish.length + 1) c')) (w.heap.size + 1) bP 31 := K2c.out.setCell (by simp) _); (have cK := K1c.out.cell); (have fK := K1c.out.free))
    | ((with_reducible refine ah w.heap.size (au { r with wish := r.wish ++ [t] } ⟨aS, cS, aD, cD, aH, cH, a', c', aY, cY, aB, cB, aA, cA⟩) rfl ?_ ?_ ?_); rfl; exact k1)
    | ((with_reducible refine af (w.heap.size + 1) bP (au { r with wish := r.wish ++ [t] } ⟨aS, cS, aD, cD, aH, cH, a', c', aY, cY, aB, cB, aA, cA⟩) rfl rfl ?_ ?_ ?_ ?_ ?_); rfl; rfl; exact k2; simp [Value.oneCell']))
   have hz := setRow_heap _ (w.heap.size + 1) _ (au { r with wish := r.wish ++ [t] } ⟨aS, cS, aD, cD, aH, cH, a', c', aY, cY, aB, cB, aA, cA⟩) _ _ k2;refine az (ty := 31) Try.results101 (w.heap.size + 1) (au { r with wish := r.wish ++ [t] } ⟨aS, cS, aD, cD, aH, cH, a', c', aY, cY, aB, cB, aA, cA⟩) _ ?_ ?_ hz Try.underlying31 rfl (by kernel_rfl) ?_
   ·rfl
   ·rfl
   rw [H1.out];have q8 : ∀ b, w.heap.size ≤ b → (∀ x, a' = some x → x.block ≠ b) → 8 < dM a' 3 (dm w.heap.size col) b := fun b hb hx => by rw [eQ hx, bI hb]; omega
   exact ⟨⟨aS, cS, aD, cD, aH, cH, a', c', aY, cY, aB, cB, aA, cA⟩, _, rfl, (HAS.out.setCell (q := ⟨w.heap.size, 10, none⟩) (q8 _ (Nat.le_refl _) (fun x hx => (NW.out x hx).1)) _).setRow (q8 _ (by omega) (fun x hx => (NW.out x hx).2)) _, ay (bG B3.out HBs.out _) (by have := HBs.out; omega) _⟩

def ik (r : Rc) (t : ByteArray) : Rc := if bf r = true then (if r.up = true then iC r t else r) else pV
theorem BF (h : bf r = false) : ik r t = pV := by simp [ik, h]
theorem ug (h : bf r = true) (hu : r.up = false) : ik r t = r := by simp [ik, h, hu]
theorem wL (h : bf r = true) (hu : r.up = true) : ik r t = iC r t := by simp [ik, h, hu]
theorem Ce (h : bD r) : bD (iC r t) := by
 unfold iC;split
 ·rename_i hb;refine ⟨h.lS, h.lD, h.lH, ?_, h.lY, h.lB, h.lA, h.nH, h.nA⟩;simp only [pU, Bool.and_eq_true, decide_eq_true_eq] at hb;have := hb.1.1.2;simp only [List.length_append, List.length_cons, List.length_nil];omega
 ·exact h
set_option maxHeartbeats 16000000 in
set_option maxRecDepth 20000 in
theorem AC (B : Nat) (r : Rc) (p : fU) (X : iU) (col : Nat → Nat) (t : ByteArray) (w : World) (hS : bD r) (ht : t.size ≤ 1048576) (h : aG B w r p X col) :
  Calls Try.prog 96 #[.agg (au r p), .string t] w (yz w (ik r t)) := by
 have RD := hid h;have HS := hid hS;clear h hS;obtain ⟨V, hV⟩ : ∃ V, V = (w.alloc (.cells (au r p) 31)).alloc (.cells bP 31) := ⟨_, rfl⟩
 have BV := hid (show Below w.heap.size w V by rw [hV]; exact ae (ae (Below.refl _ _) _) _);have K1 := hid (show aC V w.heap.size (au r p) 31 by rw [hV]; exact (aC.new _ _ _).alloc _);have K2 := hid (show aC V (w.heap.size + 1) bP 31 by rw [hV]; exact aC.new' _ _ (by simp));have SZ := hid (show w.heap.size + 1 < V.heap.size from K2.out.lt);have k1 := K1.out;rw [hV] at k1;go_enter Try.func96, Try.ntmps96;go_wp2_with ((with_reducible refine ah w.heap.size (au r p) rfl ?_ ?_ ?_); rfl; exact k1);rw [← hV];clear hV k1;refine (jf r p _ HS.out (RD.out.ext BV.out).at).mono ?_;rintro e w1 ⟨rfl, hb1⟩;have B1 := hid (aj BV.out hb1);have k1 := K1.out.ext hb1;have k2 := K2.out.ext hb1;have K2b := hid k2;have SZ1 := hid (show w.heap.size + 1 < w1.heap.size from k2.lt);clear hb1 K1 K2 BV SZ;cases hv : bf r
 case false =>
  have HN := hid (BF (t := t) hv)
  go_wp2_with (first
   | ((with_reducible refine bH (ty := 31) bP ?_ ?_); (· kernel_rfl))
   | ((with_reducible refine af (w.heap.size + 1) bP bP rfl rfl ?_ ?_ ?_ ?_ ?_); rfl; rfl; exact k2; simp [Value.oneCell']))
  have hz := setRow_heap _ (w.heap.size + 1) _ bP _ _ k2;refine az (ty := 31) Try.results96 (w.heap.size + 1) bP _ ?_ ?_ hz Try.underlying31 rfl (by kernel_rfl) ?_
  ·rfl
  ·rfl
  rw [HN.out];exact ⟨IX, ⟨[], []⟩, fun _ => 0, rfl, lT _ _ _, ay B1.out (by omega) _⟩
 have c2 := k1.cell 2;cases hu : r.up
 case false =>
  have HN := hid (ug (t := t) hv hu);have c2' : w1.cell? ⟨w.heap.size, 2, none⟩ = some (.bool false) := by rw [c2]; simp [hu]
  clear c2;have HU := hid hu;clear hu;go_wp2_with ((with_reducible refine ah w.heap.size (au r p) rfl ?_ ?_ ?_); rfl; exact k1);refine (jm B r p X col _ HS.out (RD.out.ext B1.out)).mono ?_;rintro e w2 ⟨p2, X2, col2, rfl, has2, hb2⟩;have HAS := hid has2;have B2 := hid (aj B1.out hb2);have k2 := K2b.out.ext hb2;clear has2 hb2 k1 c2';go_wp2_with ((with_reducible refine af (w.heap.size + 1) bP (au r p2) rfl rfl ?_ ?_ ?_ ?_ ?_); rfl; rfl; exact k2; simp [Value.oneCell']);have hz := setRow_heap _ (w.heap.size + 1) _ (au r p2) _ _ k2;refine az (ty := 31) Try.results96 (w.heap.size + 1) (au r p2) _ ?_ ?_ hz Try.underlying31 rfl (by kernel_rfl) ?_
  ·rfl
  ·rfl
  rw [HN.out];exact ⟨p2, X2, _, rfl, (HAS.out.far SZ1.out _).low (by have := SZ1.out; omega), ay B2.out (by omega) _⟩
 have HN := hid (wL (t := t) hv hu);have c2' : w1.cell? ⟨w.heap.size, 2, none⟩ = some (.bool true) := by rw [c2]; simp [hu]
 clear c2;have HU := hid hu;clear hu;go_wp2_with ((with_reducible refine ah w.heap.size (au r p) rfl ?_ ?_ ?_); rfl; exact k1);refine (jm B r p X col _ HS.out (RD.out.ext B1.out)).mono ?_;rintro e w2 ⟨p2, X2, col2, rfl, has2, hb2⟩;have HAS := hid has2;have B2 := hid (aj B1.out hb2);have K2c := hid (K2b.out.ext hb2);have SZ2 := hid hb2.size;clear has2 hb2 k1 k2 K2b c2';go_wp2_with fail;refine (DI w1.heap.size r p2 X2 _ t _ SZ2.out (qG hv).1 (qG hv).2.1 HS.out.lW ht HAS.out).mono ?_;rintro e w3 ⟨p3, CJ, rfl, has3, hb3⟩;have H3 := hid has3;have B3 := hid (show Below w.heap.size w w3 from B2.out.trans (hb3.mono (by have := SZ1.out; omega)));have K2d := hid (K2c.out.below hb3 SZ1.out);have SZ3 := hid (show w1.heap.size ≤ w3.heap.size from Nat.le_trans SZ2.out hb3.size);clear has3 hb3 K2c;go_wp2_with fail;refine (jm w1.heap.size (iC r t) p3 X2 CJ _ (Ce HS.out) H3.out).mono ?_;rintro e w4 ⟨p4, X4, col4, rfl, has4, hb4⟩;have H4 := hid has4;have B4 := hid (aj B3.out hb4);have k2 := K2d.out.ext hb4;clear has4 hb4;go_wp2_with ((with_reducible refine af (w.heap.size + 1) bP (au (iC r t) p4) rfl rfl ?_ ?_ ?_ ?_ ?_); rfl; rfl; exact k2; simp [Value.oneCell']);have hz := setRow_heap _ (w.heap.size + 1) _ (au (iC r t) p4) _ _ k2;refine az (ty := 31) Try.results96 (w.heap.size + 1) (au (iC r t) p4) _ ?_ ?_ hz Try.underlying31 rfl (by kernel_rfl) ?_
 ·rfl
 ·rfl
 rw [HN.out];exact ⟨p4, X4, _, rfl, (H4.out.far (by have := SZ1.out; have := SZ3.out; omega) _).low (by have := SZ1.out; have := SZ3.out; omega), ay B4.out (by omega) _⟩
end Go.Proofs.Ytjdceoimignnpaa
