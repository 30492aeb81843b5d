import Derived.Test.YtjdceoimignnpaaF18
import Derived.Test.YtjdceoimignnpaaF19
namespace Go.Proofs.Ytjdceoimignnpaa
open Go.ChangeShapes Go.WideShapes Go.ChangeAt Go.RowKit
set_option linter.unusedVariables false
set_option linter.unusedSimpArgs false
set_option maxHeartbeats 16000000
set_option maxRecDepth 20000
variable {b k n : Int}
def uN (r : Rc) (f b i : Int) : Rc := if r.lead = true ∧ b = r.ball ∧ 0 < i then lI r i f else r
theorem Ei (B : Nat) (r : Rc) (p : fU) (X : iU) (col : Nat → Nat) (mf mt mb mi mn : Int) (mx : ByteArray) (mv : Value) (w : World) (hB : B ≤ w.heap.size) (hd0 : 0 ≤ r.dk) (hd1 : r.dk ≤ r.ds.length) (hS : bD r) (hA1 : r.acks.length ≤ 100000) (hA2 : ∀ (j : Nat) a, r.acks[j]? = some a → a.2.length ≤ 100000) (hi : ny mi) (hf : ny mf) (h : aG B w r p X col) :
  Calls Try.prog 109 #[.agg (au r p), .agg (bU ⟨4, mf, mt, mb, mi, mn, mx⟩ mv)] w (jH B w col (uN r mf mb mi)) := by
 have HB := hid hB;have HH := hid (show 0 ≤ r.dk ∧ r.dk ≤ r.ds.length ∧ bD r ∧ r.acks.length ≤ 100000 ∧ ny mi ∧ ny mf from ⟨hd0, hd1, hS, hA1, hi, hf⟩);have HA := hid hA2;clear hd0 hd1 hS hA1 hA2 hi hf;obtain ⟨V, hV⟩ : ∃ V, V = ((w.alloc (.cells (au r p) 31)).alloc (.cells (bU ⟨4, mf, mt, mb, mi, mn, mx⟩ mv) 49)).alloc (.cells bP 31) := ⟨_, rfl⟩
 have S0 := hid (show BS B w col ⟨4, mf, mt, mb, mi, mn, mx⟩ mv r p X (dm w.heap.size col) V by rw [hV]; exact BS.start h hB);have BZ := hid (show B ≤ V.heap.size from Nat.le_trans HB.out (by have := S0.out.z.lt; omega));clear h hB;have cK := S0.out.k.cell;have cM := S0.out.ms.cell;have k1 := S0.out.k;have k2 := S0.out.z;rw [hV] at cK cM k1 k2;cases hl : r.lead
 ·have FIN := hid (show uN r mf mb mi = r by unfold uN; rw [if_neg (by rw [hl]; simp)]);go_enter Try.func109, Try.ntmps109
  go_wp2_with (first
   | ((with_reducible refine ah w.heap.size (au r p) rfl ?_ ?_ ?_); rfl; exact k1)
   | ((with_reducible refine af (w.heap.size + 1 + 1) bP (au r p) rfl rfl ?_ ?_ ?_ ?_ ?_); rfl; rfl; exact k2; simp [Value.oneCell']))
  have hz := setRow_heap _ (w.heap.size + 1 + 1) _ (au r p) _ _ k2;refine az (ty := 31) Try.results109 (w.heap.size + 1 + 1) (au r p) _ ?_ ?_ hz Try.underlying31 rfl (by kernel_rfl) ?_
  ·rfl
  ·rfl
  rw [FIN.out, ← hV];exact S0.out.same HB.out
 by_cases g1 : mb = r.ball
 ·have u1 : (mb == r.ball) = true := by rw [g1]; exact beq_self_eq_true _
  by_cases g2 : 0 < mi
  ·have u2 : decide (0 < mi) = true := decide_eq_true g2;have FIN := hid (show uN r mf mb mi = lI r mi mf by unfold uN; rw [if_pos ⟨hl, g1, g2⟩]);clear g1;go_enter Try.func109, Try.ntmps109
   go_wp2_with (first
    | ((with_reducible refine ah w.heap.size (au r p) rfl ?_ ?_ ?_); rfl; exact k1))
   rw [← hV];clear hV cK cM k1 k2;refine (Dq B r p X _ mi mf _ BZ.out HH.out.1 HH.out.2.1 HH.out.2.2.1 HH.out.2.2.2.1 HA.out HH.out.2.2.2.2.1 HH.out.2.2.2.2.2 S0.out.has).mono ?_;obtain ⟨r1, hr1⟩ : ∃ r1, r1 = lI r mi mf := ⟨_, rfl⟩
   rw [← hr1] at FIN ⊢;clear hr1;rintro e w1 ⟨p1, X1, c1, rfl, has1, hb1, ot1⟩;obtain ⟨_, _, z1, _⟩ := S0.out.call has1 hb1 ot1;have OUT := hid (S0.out.out HB.out has1 hb1 ot1);clear has1 hb1 ot1;go_wp2_with ((with_reducible refine af (w.heap.size + 1 + 1) bP (au r1 p1) rfl rfl ?_ ?_ ?_ ?_ ?_); rfl; rfl; exact z1; simp [Value.oneCell']);have hz := setRow_heap _ (w.heap.size + 1 + 1) _ (au r1 p1) _ _ z1;refine az (ty := 31) Try.results109 (w.heap.size + 1 + 1) (au r1 p1) _ ?_ ?_ hz Try.underlying31 rfl (by kernel_rfl) ?_
   ·rfl
   ·rfl
   rw [FIN.out];exact OUT.out
  have u2 : decide (0 < mi) = false := decide_eq_false g2;have FIN := hid (show uN r mf mb mi = r by unfold uN; rw [if_neg (fun q => g2 q.2.2)]);clear g1;go_enter Try.func109, Try.ntmps109
  go_wp2_with (first
   | ((with_reducible refine ah w.heap.size (au r p) rfl ?_ ?_ ?_); rfl; exact k1)
   | ((with_reducible refine af (w.heap.size + 1 + 1) bP (au r p) rfl rfl ?_ ?_ ?_ ?_ ?_); rfl; rfl; exact k2; simp [Value.oneCell']))
  have hz := setRow_heap _ (w.heap.size + 1 + 1) _ (au r p) _ _ k2;refine az (ty := 31) Try.results109 (w.heap.size + 1 + 1) (au r p) _ ?_ ?_ hz Try.underlying31 rfl (by kernel_rfl) ?_
  ·rfl
  ·rfl
  rw [FIN.out, ← hV];exact S0.out.same HB.out
 have u1 : (mb == r.ball) = false := beq_false_of_ne g1;have FIN := hid (show uN r mf mb mi = r by unfold uN; rw [if_neg (fun q => g1 q.2.1)]);go_enter Try.func109, Try.ntmps109
 go_wp2_with (first
  | ((with_reducible refine ah w.heap.size (au r p) rfl ?_ ?_ ?_); rfl; exact k1)
  | ((with_reducible refine af (w.heap.size + 1 + 1) bP (au r p) rfl rfl ?_ ?_ ?_ ?_ ?_); rfl; rfl; exact k2; simp [Value.oneCell']))
 have hz := setRow_heap _ (w.heap.size + 1 + 1) _ (au r p) _ _ k2;refine az (ty := 31) Try.results109 (w.heap.size + 1 + 1) (au r p) _ ?_ ?_ hz Try.underlying31 rfl (by kernel_rfl) ?_
 ·rfl
 ·rfl
 rw [FIN.out, ← hV];exact S0.out.same HB.out
structure tJ (g : Nat) (c cm : Array Value) (w' : World) : Prop where
 blk : aC w' g c 31
 bm : aC w' (g + 1) cm 49
theorem tJ.drew {g : Nat} {c cm : Array Value} {w' : World} (h : tJ g c cm w') : tJ g c cm w'.drew := ⟨h.blk, h.bm⟩
def Ny (w : World) (g : Nat) : Nat := match w.cell? ⟨g, 7, none⟩ with | some (.int _ n) => n.toNat | _ => 0
theorem Hq {B : Nat} {w : World} {col : Nat → Nat} {m : gq} {mv : Value} {r : Rc} {p : fU} {X : iU} {c' : Nat → Nat} {v : World} (h : BS B w col m mv r p X c' v) : Ny v w.heap.size = r.dk.toNat := by
 unfold Ny;rw [h.k.cell 7];rfl
theorem Fv {s : Sl} {t : List Sl} (h : k < n) (h2 : s.1 = b) : DU b n (s :: t) k = DU b n t (k + 1) := by
 conv => lhs; unfold DU
 rw [if_pos ⟨h, h2⟩]
theorem Eo {l : List Sl} (h : ¬ k < n) : DU b n l k = k := by
 cases l with
 | nil => rfl
 | cons s t => unfold DU; rw [if_neg (fun q => h q.1)]
theorem Hy (B : Nat) (r : Rc) (p : fU) (X : iU) (col : Nat → Nat) (m : gq) (mv : Value) (w : World) (hB : B ≤ w.heap.size) (hd0 : 0 ≤ r.dk) (hd1 : r.dk ≤ r.ds.length) (hS : bD r) (h : aG B w r p X col) :
  Calls Try.prog 114 #[.agg (au r p), .agg (bU m mv)] w (jH B w col (jU r m)) := by
 have HB := hid hB;have HS := hid hS;have HD := hid (And.intro hd0 hd1);have LW := hid hS.lW;obtain ⟨V, hV⟩ : ∃ V, V = ((w.alloc (.cells (au r p) 31)).alloc (.cells (bU m mv) 49)).alloc (.cells bP 31) := ⟨_, rfl⟩
 have S0 := hid (show BS B w col m mv r p X (dm w.heap.size col) V by rw [hV]; exact BS.start h hB);clear h hS hB hd0 hd1;have cK := S0.out.k.cell;have cM := S0.out.ms.cell;have k1 := S0.out.k;have k2 := S0.out.z;rw [hV] at cK cM k1 k2;by_cases g1 : m.f = r.num
 ·have u1 : (m.f == r.num) = true := by rw [g1]; exact beq_self_eq_true _
  have FIN := hid (show jU r m = r by unfold jU; rw [if_pos (.inl g1)]);clear g1;go_enter Try.func114, Try.ntmps114
  go_wp2_with (first
   | ((with_reducible refine ah w.heap.size (au r p) rfl ?_ ?_ ?_); rfl; exact k1)
   | ((with_reducible refine af (w.heap.size + 1 + 1) bP (au r p) rfl rfl ?_ ?_ ?_ ?_ ?_); rfl; rfl; exact k2; simp [Value.oneCell']))
  have hz := setRow_heap _ (w.heap.size + 1 + 1) _ (au r p) _ _ k2;refine az (ty := 31) Try.results114 (w.heap.size + 1 + 1) (au r p) _ ?_ ?_ hz Try.underlying31 rfl (by kernel_rfl) ?_
  ·rfl
  ·rfl
  rw [FIN.out, ← hV];exact S0.out.same HB.out
 have u1 : (m.f == r.num) = false := beq_false_of_ne g1;by_cases g2 : m.b < 1
 ·have u2 : decide (m.b < 1) = true := decide_eq_true g2;have FIN := hid (show jU r m = r by unfold jU; rw [if_pos (.inr g2)]);go_enter Try.func114, Try.ntmps114
  go_wp2_with (first
   | ((with_reducible refine ah w.heap.size (au r p) rfl ?_ ?_ ?_); rfl; exact k1)
   | ((with_reducible refine af (w.heap.size + 1 + 1) bP (au r p) rfl rfl ?_ ?_ ?_ ?_ ?_); rfl; rfl; exact k2; simp [Value.oneCell']))
  have hz := setRow_heap _ (w.heap.size + 1 + 1) _ (au r p) _ _ k2;refine az (ty := 31) Try.results114 (w.heap.size + 1 + 1) (au r p) _ ?_ ?_ hz Try.underlying31 rfl (by kernel_rfl) ?_
  ·rfl
  ·rfl
  rw [FIN.out, ← hV];exact S0.out.same HB.out
 have u2 : decide (m.b < 1) = false := decide_eq_false g2;have FIN := hid (show jU r m = jO (qL (lG (bJ r m.b) m) m) m.f r.wish by unfold jU; rw [if_neg (fun h => h.elim g1 g2)]);have G1 := hid g1;clear g1;go_enter Try.func114, Try.ntmps114;go_wp2_with ((with_reducible refine ah w.heap.size (au r p) rfl ?_ ?_ ?_); rfl; exact k1);rw [← hV];clear hV cK cM k1 k2;refine (sQ B r p X _ m.b _ (Nat.le_trans HB.out (by have := S0.out.z.lt; omega)) S0.out.has).mono ?_;obtain ⟨r1, hr1⟩ : ∃ r1, r1 = bJ r m.b := ⟨_, rfl⟩
 rw [← hr1] at FIN ⊢;have D1 := hid (show r1.ds = r.ds ∧ r1.dk = r.dk ∧ r1.wish = r.wish by rw [hr1]; exact ⟨sJ _ _, BP _ _, zt _ _⟩);clear hr1;rintro e w1 ⟨p1, X1, c1, rfl, has1, hb1, ot1⟩;obtain ⟨k1, cm1, z1, _⟩ := S0.out.call has1 hb1 ot1;have S1 := hid (S0.out.next HB.out has1 hb1 ot1);clear has1 hb1 ot1 S0;obtain ⟨W1, hW1⟩ : ∃ v, v = w1.setRow w.heap.size (au r1 p1) := ⟨_, rfl⟩
 rw [← hW1] at S1;go_wp2_with ((with_reducible refine af w.heap.size (au r p) (au r1 p1) rfl rfl ?_ ?_ ?_ ?_ ?_); rfl; rfl; exact k1; simp [Value.oneCell']);rw [← hW1];clear hW1 k1 cm1 z1;have DD := D1.out;have dl := HD.out;have LD := hid (show r1.ds.length = r.ds.length by rw [D1.out.1]);obtain ⟨d0, hd0⟩ : ∃ d0 : Nat, r1.dk = (d0 : Int) := ⟨r1.dk.toNat, by rw [DD.2.1]; omega⟩
 have HD0 := hid hd0
 have SI := hid (show BS B w col m mv (pX r1 (d0 : Int)) p1 X1 c1 W1 by
  have h9 := S1.out;have e9 : pX r1 (d0 : Int) = r1 := by rw [← hd0]
  rw [e9]
  exact h9)
 have dle : d0 ≤ r1.ds.length := by rw [LD.out]; have := DD.2.1; omega
 clear DD hd0 S1;try simp only [qq]
 go_loopw [] (fun wr => ∃ (d : Nat), d ≤ r1.ds.length ∧ DU m.b m.n (r1.ds.drop d) d = DU m.b m.n (r1.ds.drop d0) d0 ∧ BS B w col m mv (pX r1 (d : Int)) p1 X1 c1 wr) (fun wr => r1.ds.length - Ny wr w.heap.size);case atStart => exact ⟨d0, dle, rfl, SI.out⟩
 obtain ⟨d, hdl, hup, hss⟩ := hrel;have SS := hid hss;have UP := hid hup;clear hss hup SI;have sm1 : r1.ds.length ≤ 1048576 := by rw [LD.out]; exact HS.out.lD
 have cK := SS.out.k.cell;have fK := SS.out.k.free;have cM := SS.out.ms.cell
 have BK0 := hid (show ∀ e : Int, DU m.b m.n (r1.ds.drop d) d = e → lG r1 m = pX r1 e from fun e he => by
  unfold lG
  rw [HD0.out, Int.toNat_natCast, ← UP.out, he])
 have e3 : IntKind.i64.wrap ((d : Int) + 1) = (d : Int) + 1 := by go_arith
 by_cases gn : (d : Int) < m.n
 ·have u3 : decide ((d : Int) < m.n) = true := decide_eq_true gn;have GN := hid gn;by_cases gl : d < r1.ds.length
  ·have u4 : decide ((d : Int) < (r1.ds.length : Int)) = true := decide_eq_true (by omega);obtain ⟨t, ht⟩ : ∃ t, r1.ds[d]? = some t := ⟨_, List.getElem?_eq_getElem gl⟩
   have DT := hid (show r1.ds.drop d = t :: r1.ds.drop (d + 1) by
    obtain ⟨h1, h2⟩ := List.getElem?_eq_some_iff.1 ht
    rw [← h2]; exact List.drop_eq_getElem_cons h1)
   obtain ⟨gD, ed, _, dc, _⟩ := SS.out.has.d.cell (iY r1.ds d t ht).1;obtain ⟨aS1, cS1, aD1, cD1, aH1, cH1, aW1, cW1, aY1, cY1, aB1, cB1, aA1, cA1⟩ := p1;dsimp only at ed;subst ed;clear ht;have e6 : (0 : Int) ≤ (d : Int) := by omega
   have e7 : (d : Int) < (r1.ds.length : Int) := by omega
   by_cases gb : t.1 = m.b
   ·have u5 : (t.1 == m.b) = true := by rw [gb]; exact beq_self_eq_true _
    have GB := hid gb;clear gb;go_wp2_with fail
    go_quiet (fail)
    have SQ := hid (SS.out.ext HB.out (below_drewN (Below.refl _ _) nq));have fQ := SQ.out.k.free;have cQ := SQ.out.k.cell;go_wp2_with fail;have NX := hid (SQ.out.LU HB.out ((d + 1 : Nat) : Int));go_roundw;case rel => exact ⟨d + 1, by omega, by rw [← UP.out, DT.out, Fv (by have := GN.out; omega) (by have := GB.out; exact this)]; rfl, by have h9 := NX.out; simpa using h9⟩
    case measure =>
     have m1 := Hq NX.out;have m2 := Hq SS.out;simp only [Int.toNat_natCast] at m1 m2;simp only [Int.natCast_add] at m1;have m3 : ((1 : Nat) : Int) = 1 := rfl;rw [m3] at m1;rw [m1, m2];omega
   have u5 : (t.1 == m.b) = false := beq_false_of_ne gb;have BK := hid (BK0.out d (by rw [DT.out]; unfold DU; rw [if_neg (fun q => gb q.2)]));go_wp2_with fail
   go_quiet (fail)
   have SQ := hid (SS.out.ext HB.out (below_drewN (Below.refl _ _) nq));have k3 := SQ.out.k;have cK3 := SQ.out.k.cell;have cM3 := SQ.out.ms.cell
   go_wp2_with (first
    | ((with_reducible refine ah w.heap.size (au (pX r1 (d : Int)) ⟨aS1, cS1, some ⟨gD, 0, none⟩, cD1, aH1, cH1, aW1, cW1, aY1, cY1, aB1, cB1, aA1, cA1⟩) rfl ?_ ?_ ?_); rfl; exact k3)
    | ((with_reducible refine bH (ty := 49) (bU ⟨7, 0, m.f, m.b, (d : Int) + 1, 0, ⟨#[]⟩⟩ (.slice none 0 0)) ?_ ?_); (· kernel_rfl)))
   clear cK3 cM3;refine (iM B (pX r1 (d : Int)) ⟨aS1, cS1, some ⟨gD, 0, none⟩, cD1, aH1, cH1, aW1, cW1, aY1, cY1, aB1, cB1, aA1, cA1⟩ X1 c1 ⟨7, 0, m.f, m.b, (d : Int) + 1, 0, ⟨#[]⟩⟩ none [] 0 _ (Nat.le_trans HB.out (by have := SQ.out.z.lt; omega)) SQ.out.has (jb _ _ _ _ _ _) (fun q hq x x' _ hx' => by simp at hx') (Nat.zero_le _) (fun i s hs => by simp at hs)).mono ?_;obtain ⟨r3, hr3⟩ : ∃ r3, r3 = dw (pX r1 (d : Int)) ⟨7, 0, m.f, m.b, (d : Int) + 1, 0, ⟨#[]⟩⟩ [] := ⟨_, rfl⟩
   rw [← hr3];have RES := hid (show jU r m = jO r3 m.f r.wish by rw [FIN.out, BK.out, hr3]; unfold qL; rw [if_pos (show (pX r1 (d : Int)).dk < m.n from GN.out)]);have WS := hid (show r3.wish = r.wish by rw [hr3, sK]; exact D1.out.2.2);clear hr3;rintro e w3 ⟨p3, X3, c3, rfl, has3, hb3, ot3⟩;obtain ⟨kk3, _, _, _⟩ := SQ.out.call has3 hb3 ot3;have SN := hid (SQ.out.next HB.out has3 hb3 ot3);clear has3 hb3 ot3 SQ k3 SS;have SS := SN;clear SN;obtain ⟨W3, hW3⟩ : ∃ v, v = w3.setRow w.heap.size (au r3 p3) := ⟨_, rfl⟩
   rw [← hW3] at SS;go_wp2_with ((with_reducible refine af w.heap.size (au (pX r1 (d : Int)) ⟨aS1, cS1, some ⟨gD, 0, none⟩, cD1, aH1, cH1, aW1, cW1, aY1, cY1, aB1, cB1, aA1, cA1⟩) (au r3 p3) rfl rfl ?_ ?_ ?_ ?_ ?_); rfl; rfl; exact kk3; simp [Value.oneCell']);rw [← hW3];clear hW3 kk3;try simp only [qq]
   go_loopw [5] (fun j wr => ∃ (n : Nat) (r4 : Rc) (p4 : fU) (X4 : iU) (c4 : Nat → Nat), n ≤ r.wish.length ∧ j = .int .i64 n ∧ r4 = jO r3 m.f (r.wish.take n) ∧ BS B w col m mv r4 p4 X4 c4 wr) (fun j _ => r.wish.length - (intOf j).toNat);case atStart => exact ⟨0, r3, p3, X3, c3, Nat.zero_le _, rfl, rfl, SS.out⟩
   obtain ⟨n, r4, p4, X4, c4, hn, rfl, hr4, hss⟩ := hrel;have ST := hid hss;have ER := hid hr4;have W4 := hid (show r4.wish = r.wish by rw [hr4, pF, WS.out]);clear hss hr4 SS;have cK := ST.out.k.cell;have fK := ST.out.k.free;have cM := ST.out.ms.cell;have k1 := ST.out.k;have k2 := ST.out.z;have lw := LW.out;by_cases hnl : n < r.wish.length
   ·have hnl4 : n < r4.wish.length := by rw [W4.out]; exact hnl
    obtain ⟨t, ht0⟩ : ∃ t, r4.wish[n]? = some t := ⟨_, List.getElem?_eq_getElem hnl4⟩
    have HT := hid (show r.wish[n]? = some t by rw [← W4.out]; exact ht0);have TG := hid (show t.size ≤ maxLen from ST.out.has.gd.t n t ht0);obtain ⟨gW, ew, _, ct, _⟩ := ST.out.has.t.cell (j := n) (u := .string t) (by simp [fH, ht0]);obtain ⟨aS4, cS4, aD4, cD4, aH4, cH4, aW4, cW4, aY4, cY4, aB4, cB4, aA4, cA4⟩ := p4;dsimp only at ew;subst ew;clear ht0;have e11 : (0 : Int) ≤ (n : Int) := by omega
    have e12 : (n : Int) < (r4.wish.length : Int) := by omega
    go_wp2_with fail;have hK0 : tJ w.heap.size (au r4 ⟨aS4, cS4, aD4, cD4, aH4, cH4, (some ⟨gW, 0, none⟩), cW4, aY4, cY4, aB4, cB4, aA4, cA4⟩) (bU m mv) wr := ⟨k1, ST.out.ms⟩
    refine aI (S := tJ w.heap.size (au r4 ⟨aS4, cS4, aD4, cD4, aH4, cH4, (some ⟨gW, 0, none⟩), cW4, aY4, cY4, aB4, cB4, aA4, cA4⟩) (bU m mv)) 10 (by kernel_rfl) hK0.drew (fun q9 => ?_);simp only [qz, Nat.reduceAdd];clear hK0 cK fK cM;refine dO (i := 0) (v := .agg (au r4 ⟨aS4, cS4, aD4, cD4, aH4, cH4, (some ⟨gW, 0, none⟩), cW4, aY4, cY4, aB4, cB4, aA4, cA4⟩)) (ax rfl) (by kernel_rfl) (by kernel_rfl) (by kernel_rfl) (by kernel_rfl) (fun _ _ _ h => h) (gG (fun w9 hS => hS.blk) rfl (by rfl) _ rfl rfl) q9 ?_;try simp only [qq]
    refine bg.go [1, 2, 3, 4, 5, 6] ?_;iterate 6 (apply bg.take (ax rfl) (by kernel_rfl) (by rfl) (fun _ _ _ h => h) q9; (· intro w9 hSw; have hq := hSw.blk.cell; have hm := hSw.bm.cell; clear hSw; go_simp; try with_reducible rfl); try simp only [qq])
    refine bg.fin ?_;refine aT 7 fun K hK => ?_
    go_simp;refine hK.out _ _ q9 (fun hNew => ?_);clear hK K hNew;try simp only [qq]
    refine bg.go [8] ?_;iterate 1 (apply bg.take (ax rfl) (by kernel_rfl) (by rfl) (fun _ _ _ h => h) q9; (· intro w9 hSw; have hq := hSw.blk.cell; have hm := hSw.bm.cell; clear hSw; go_simp; try with_reducible rfl); try simp only [qq])
    refine bg.fin ?_;refine aT 9 fun K hK => ?_
    go_simp;clear ct;have SD := hid (ST.out.ext HB.out (show Below wr.heap.size wr wr.drew from (Below.refl _ _).drew));refine (iM B r4 ⟨aS4, cS4, aD4, cD4, aH4, cH4, (some ⟨gW, 0, none⟩), cW4, aY4, cY4, aB4, cB4, aA4, cA4⟩ X4 c4 ⟨8, 0, m.f, 0, 0, 0, t⟩ none [] 0 wr.drew (show B ≤ wr.heap.size from Nat.le_trans HB.out (by have := k2.lt; omega)) SD.out.has (jb _ _ _ _ _ _) (fun q hq x x' _ hx' => by simp at hx') TG.out (fun i s hs => by simp at hs)).mono ?_;obtain ⟨r5, hr5⟩ : ∃ r5, r5 = dw r4 ⟨8, 0, m.f, 0, 0, 0, t⟩ [] := ⟨_, rfl⟩
    rw [← hr5];have E5 := hid (show r5 = jO r3 m.f (r.wish.take (n + 1)) by rw [hr5, ER.out, List.take_add_one, HT.out]; exact (sH _ _ _ _).symm);clear hr5;rintro e w5 ⟨p5, X5, c5, rfl, has5, hb5, ot5⟩;obtain ⟨q1, q2, q3, _⟩ := SD.out.call has5 hb5 ot5;have N5 := hid (SD.out.next HB.out has5 hb5 ot5);clear has5 hb5 ot5;go_wp2_with fail;refine hK.out _ _ ⟨q1, q2⟩ (fun _ => ?_);clear hK K q9;try simp only [qq]
    refine aJ fun K hK => ?_
    rw [if_pos (by rfl)];refine wp_store_row 31 _ _ rfl w.heap.size (au r5 p5) rfl rfl 31 (au r4 ⟨aS4, cS4, aD4, cD4, aH4, cH4, (some ⟨gW, 0, none⟩), cW4, aY4, cY4, aB4, cB4, aA4, cA4⟩) q1 (by kernel_rfl) rfl (by simp [Value.oneCell']) ?_;refine hK.out _ _ ?_;clear hK K;go_wp2_with fail;go_roundw;case rel => exact ⟨n + 1, r5, p5, X5, c5, by omega, by go_num, E5.out, N5.out⟩
    case measure => simp [intOf]; omega
   have e12 : ¬ (n : Int) < (r4.wish.length : Int) := by rw [W4.out]; omega
   obtain rfl : n = r.wish.length := by omega
   go_wp2_with (first
    | ((with_reducible refine ah w.heap.size (au r4 p4) rfl ?_ ?_ ?_); rfl; exact k1)
    | ((with_reducible refine af (w.heap.size + 1 + 1) bP (au r4 p4) rfl rfl ?_ ?_ ?_ ?_ ?_); rfl; rfl; exact k2; simp [Value.oneCell']))
   have hz := setRow_heap _ (w.heap.size + 1 + 1) _ (au r4 p4) _ _ k2;refine az (ty := 31) Try.results114 (w.heap.size + 1 + 1) (au r4 p4) _ ?_ ?_ hz Try.underlying31 rfl (by kernel_rfl) ?_
   ·rfl
   ·rfl
   have E4 : jU r m = r4 := by rw [RES.out, ER.out, List.take_length]
   rw [E4];exact ST.out.same HB.out
  have u4 : decide ((d : Int) < (r1.ds.length : Int)) = false := decide_eq_false (by omega);have BK := hid (BK0.out d (by rw [List.drop_of_length_le (by omega)]; rfl));go_wp2_with fail
  go_quiet (fail)
  have SQ := hid (SS.out.ext HB.out (below_drewN (Below.refl _ _) nq));have k3 := SQ.out.k;have cK3 := SQ.out.k.cell;have cM3 := SQ.out.ms.cell
  go_wp2_with (first
   | ((with_reducible refine ah w.heap.size (au (pX r1 (d : Int)) p1) rfl ?_ ?_ ?_); rfl; exact k3)
   | ((with_reducible refine bH (ty := 49) (bU ⟨7, 0, m.f, m.b, (d : Int) + 1, 0, ⟨#[]⟩⟩ (.slice none 0 0)) ?_ ?_); (· kernel_rfl)))
  clear cK3 cM3;refine (iM B (pX r1 (d : Int)) p1 X1 c1 ⟨7, 0, m.f, m.b, (d : Int) + 1, 0, ⟨#[]⟩⟩ none [] 0 _ (Nat.le_trans HB.out (by have := SQ.out.z.lt; omega)) SQ.out.has (jb _ _ _ _ _ _) (fun q hq x x' _ hx' => by simp at hx') (Nat.zero_le _) (fun i s hs => by simp at hs)).mono ?_;obtain ⟨r3, hr3⟩ : ∃ r3, r3 = dw (pX r1 (d : Int)) ⟨7, 0, m.f, m.b, (d : Int) + 1, 0, ⟨#[]⟩⟩ [] := ⟨_, rfl⟩
  rw [← hr3];have RES := hid (show jU r m = jO r3 m.f r.wish by rw [FIN.out, BK.out, hr3]; unfold qL; rw [if_pos (show (pX r1 (d : Int)).dk < m.n from GN.out)]);have WS := hid (show r3.wish = r.wish by rw [hr3, sK]; exact D1.out.2.2);clear hr3;rintro e w3 ⟨p3, X3, c3, rfl, has3, hb3, ot3⟩;obtain ⟨kk3, _, _, _⟩ := SQ.out.call has3 hb3 ot3;have SN := hid (SQ.out.next HB.out has3 hb3 ot3);clear has3 hb3 ot3 SQ k3 SS;have SS := SN;clear SN;obtain ⟨W3, hW3⟩ : ∃ v, v = w3.setRow w.heap.size (au r3 p3) := ⟨_, rfl⟩
  rw [← hW3] at SS;go_wp2_with ((with_reducible refine af w.heap.size (au (pX r1 (d : Int)) p1) (au r3 p3) rfl rfl ?_ ?_ ?_ ?_ ?_); rfl; rfl; exact kk3; simp [Value.oneCell']);rw [← hW3];clear hW3 kk3;try simp only [qq]
  go_loopw [5] (fun j wr => ∃ (n : Nat) (r4 : Rc) (p4 : fU) (X4 : iU) (c4 : Nat → Nat), n ≤ r.wish.length ∧ j = .int .i64 n ∧ r4 = jO r3 m.f (r.wish.take n) ∧ BS B w col m mv r4 p4 X4 c4 wr) (fun j _ => r.wish.length - (intOf j).toNat);case atStart => exact ⟨0, r3, p3, X3, c3, Nat.zero_le _, rfl, rfl, SS.out⟩
  obtain ⟨n, r4, p4, X4, c4, hn, rfl, hr4, hss⟩ := hrel;have ST := hid hss;have ER := hid hr4;have W4 := hid (show r4.wish = r.wish by rw [hr4, pF, WS.out]);clear hss hr4 SS;have cK := ST.out.k.cell;have fK := ST.out.k.free;have cM := ST.out.ms.cell;have k1 := ST.out.k;have k2 := ST.out.z;have lw := LW.out;by_cases hnl : n < r.wish.length
  ·have hnl4 : n < r4.wish.length := by rw [W4.out]; exact hnl
   obtain ⟨t, ht0⟩ : ∃ t, r4.wish[n]? = some t := ⟨_, List.getElem?_eq_getElem hnl4⟩
   have HT := hid (show r.wish[n]? = some t by rw [← W4.out]; exact ht0);have TG := hid (show t.size ≤ maxLen from ST.out.has.gd.t n t ht0);obtain ⟨gW, ew, _, ct, _⟩ := ST.out.has.t.cell (j := n) (u := .string t) (by simp [fH, ht0]);obtain ⟨aS4, cS4, aD4, cD4, aH4, cH4, aW4, cW4, aY4, cY4, aB4, cB4, aA4, cA4⟩ := p4;dsimp only at ew;subst ew;clear ht0;have e11 : (0 : Int) ≤ (n : Int) := by omega
   have e12 : (n : Int) < (r4.wish.length : Int) := by omega
   go_wp2_with fail;have hK0 : tJ w.heap.size (au r4 ⟨aS4, cS4, aD4, cD4, aH4, cH4, (some ⟨gW, 0, none⟩), cW4, aY4, cY4, aB4, cB4, aA4, cA4⟩) (bU m mv) wr := ⟨k1, ST.out.ms⟩
   refine aI (S := tJ w.heap.size (au r4 ⟨aS4, cS4, aD4, cD4, aH4, cH4, (some ⟨gW, 0, none⟩), cW4, aY4, cY4, aB4, cB4, aA4, cA4⟩) (bU m mv)) 10 (by kernel_rfl) hK0.drew (fun q9 => ?_);simp only [qz, Nat.reduceAdd];clear hK0 cK fK cM;refine dO (i := 0) (v := .agg (au r4 ⟨aS4, cS4, aD4, cD4, aH4, cH4, (some ⟨gW, 0, none⟩), cW4, aY4, cY4, aB4, cB4, aA4, cA4⟩)) (ax rfl) (by kernel_rfl) (by kernel_rfl) (by kernel_rfl) (by kernel_rfl) (fun _ _ _ h => h) (gG (fun w9 hS => hS.blk) rfl (by rfl) _ rfl rfl) q9 ?_;try simp only [qq]
   refine bg.go [1, 2, 3, 4, 5, 6] ?_;iterate 6 (apply bg.take (ax rfl) (by kernel_rfl) (by rfl) (fun _ _ _ h => h) q9; (· intro w9 hSw; have hq := hSw.blk.cell; have hm := hSw.bm.cell; clear hSw; go_simp; try with_reducible rfl); try simp only [qq])
   refine bg.fin ?_;refine aT 7 fun K hK => ?_
   go_simp;refine hK.out _ _ q9 (fun hNew => ?_);clear hK K hNew;try simp only [qq]
   refine bg.go [8] ?_;iterate 1 (apply bg.take (ax rfl) (by kernel_rfl) (by rfl) (fun _ _ _ h => h) q9; (· intro w9 hSw; have hq := hSw.blk.cell; have hm := hSw.bm.cell; clear hSw; go_simp; try with_reducible rfl); try simp only [qq])
   refine bg.fin ?_;refine aT 9 fun K hK => ?_
   go_simp;clear ct;have SD := hid (ST.out.ext HB.out (show Below wr.heap.size wr wr.drew from (Below.refl _ _).drew));refine (iM B r4 ⟨aS4, cS4, aD4, cD4, aH4, cH4, (some ⟨gW, 0, none⟩), cW4, aY4, cY4, aB4, cB4, aA4, cA4⟩ X4 c4 ⟨8, 0, m.f, 0, 0, 0, t⟩ none [] 0 wr.drew (show B ≤ wr.heap.size from Nat.le_trans HB.out (by have := k2.lt; omega)) SD.out.has (jb _ _ _ _ _ _) (fun q hq x x' _ hx' => by simp at hx') TG.out (fun i s hs => by simp at hs)).mono ?_;obtain ⟨r5, hr5⟩ : ∃ r5, r5 = dw r4 ⟨8, 0, m.f, 0, 0, 0, t⟩ [] := ⟨_, rfl⟩
   rw [← hr5];have E5 := hid (show r5 = jO r3 m.f (r.wish.take (n + 1)) by rw [hr5, ER.out, List.take_add_one, HT.out]; exact (sH _ _ _ _).symm);clear hr5;rintro e w5 ⟨p5, X5, c5, rfl, has5, hb5, ot5⟩;obtain ⟨q1, q2, q3, _⟩ := SD.out.call has5 hb5 ot5;have N5 := hid (SD.out.next HB.out has5 hb5 ot5);clear has5 hb5 ot5;go_wp2_with fail;refine hK.out _ _ ⟨q1, q2⟩ (fun _ => ?_);clear hK K q9;try simp only [qq]
   refine aJ fun K hK => ?_
   rw [if_pos (by rfl)];refine wp_store_row 31 _ _ rfl w.heap.size (au r5 p5) rfl rfl 31 (au r4 ⟨aS4, cS4, aD4, cD4, aH4, cH4, (some ⟨gW, 0, none⟩), cW4, aY4, cY4, aB4, cB4, aA4, cA4⟩) q1 (by kernel_rfl) rfl (by simp [Value.oneCell']) ?_;refine hK.out _ _ ?_;clear hK K;go_wp2_with fail;go_roundw;case rel => exact ⟨n + 1, r5, p5, X5, c5, by omega, by go_num, E5.out, N5.out⟩
   case measure => simp [intOf]; omega
  have e12 : ¬ (n : Int) < (r4.wish.length : Int) := by rw [W4.out]; omega
  obtain rfl : n = r.wish.length := by omega
  go_wp2_with (first
   | ((with_reducible refine ah w.heap.size (au r4 p4) rfl ?_ ?_ ?_); rfl; exact k1)
   | ((with_reducible refine af (w.heap.size + 1 + 1) bP (au r4 p4) rfl rfl ?_ ?_ ?_ ?_ ?_); rfl; rfl; exact k2; simp [Value.oneCell']))
  have hz := setRow_heap _ (w.heap.size + 1 + 1) _ (au r4 p4) _ _ k2;refine az (ty := 31) Try.results114 (w.heap.size + 1 + 1) (au r4 p4) _ ?_ ?_ hz Try.underlying31 rfl (by kernel_rfl) ?_
  ·rfl
  ·rfl
  have E4 : jU r m = r4 := by rw [RES.out, ER.out, List.take_length]
  rw [E4];exact ST.out.same HB.out
 have u3 : decide ((d : Int) < m.n) = false := decide_eq_false gn;have GN := hid gn;have BK := hid (BK0.out d (Eo gn));go_wp2_with fail
 go_quiet (fail)
 have SQ := hid (SS.out.ext HB.out (below_drewN (Below.refl _ _) nq));have cQ := SQ.out.k.cell;have cQm := SQ.out.ms.cell;clear SS;obtain ⟨r3, hr3⟩ : ∃ r3, r3 = pX r1 (d : Int) := ⟨_, rfl⟩
 have RES := hid (show jU r m = jO r3 m.f r.wish by rw [FIN.out, BK.out, hr3]; unfold qL; rw [if_neg (show ¬ (pX r1 (d : Int)).dk < m.n from by show ¬ (d : Int) < m.n; have := GN.out; omega)]);have WS := hid (show r3.wish = r.wish by rw [hr3]; exact D1.out.2.2);have SS := hid (show BS B w col m mv r3 p1 X1 c1 _ from by rw [hr3]; exact SQ.out);clear hr3;obtain ⟨p3, hp3⟩ : ∃ p3, p3 = p1 := ⟨_, rfl⟩
 obtain ⟨X3, hX3⟩ : ∃ X3, X3 = X1 := ⟨_, rfl⟩
 obtain ⟨c3, hc3⟩ : ∃ c3, c3 = c1 := ⟨_, rfl⟩
 rw [← hp3, ← hX3, ← hc3] at SS;clear hp3 hX3 hc3 SQ;go_wp2_with fail;clear cQ cQm;go_loopw [5] (fun j wr => ∃ (n : Nat) (r4 : Rc) (p4 : fU) (X4 : iU) (c4 : Nat → Nat), n ≤ r.wish.length ∧ j = .int .i64 n ∧ r4 = jO r3 m.f (r.wish.take n) ∧ BS B w col m mv r4 p4 X4 c4 wr) (fun j _ => r.wish.length - (intOf j).toNat);case atStart => exact ⟨0, r3, p3, X3, c3, Nat.zero_le _, rfl, rfl, SS.out⟩
 obtain ⟨n, r4, p4, X4, c4, hn, rfl, hr4, hss⟩ := hrel;have ST := hid hss;have ER := hid hr4;have W4 := hid (show r4.wish = r.wish by rw [hr4, pF, WS.out]);clear hss hr4 SS;have cK := ST.out.k.cell;have fK := ST.out.k.free;have cM := ST.out.ms.cell;have k1 := ST.out.k;have k2 := ST.out.z;have lw := LW.out;by_cases hnl : n < r.wish.length
 ·have hnl4 : n < r4.wish.length := by rw [W4.out]; exact hnl
  obtain ⟨t, ht0⟩ : ∃ t, r4.wish[n]? = some t := ⟨_, List.getElem?_eq_getElem hnl4⟩
  have HT := hid (show r.wish[n]? = some t by rw [← W4.out]; exact ht0);have TG := hid (show t.size ≤ maxLen from ST.out.has.gd.t n t ht0);obtain ⟨gW, ew, _, ct, _⟩ := ST.out.has.t.cell (j := n) (u := .string t) (by simp [fH, ht0]);obtain ⟨aS4, cS4, aD4, cD4, aH4, cH4, aW4, cW4, aY4, cY4, aB4, cB4, aA4, cA4⟩ := p4;dsimp only at ew;subst ew;clear ht0;have e11 : (0 : Int) ≤ (n : Int) := by omega
  have e12 : (n : Int) < (r4.wish.length : Int) := by omega
  go_wp2_with fail;have hK0 : tJ w.heap.size (au r4 ⟨aS4, cS4, aD4, cD4, aH4, cH4, (some ⟨gW, 0, none⟩), cW4, aY4, cY4, aB4, cB4, aA4, cA4⟩) (bU m mv) wr := ⟨k1, ST.out.ms⟩
  refine aI (S := tJ w.heap.size (au r4 ⟨aS4, cS4, aD4, cD4, aH4, cH4, (some ⟨gW, 0, none⟩), cW4, aY4, cY4, aB4, cB4, aA4, cA4⟩) (bU m mv)) 10 (by kernel_rfl) hK0.drew (fun q9 => ?_);simp only [qz, Nat.reduceAdd];clear hK0 cK fK cM;refine dO (i := 0) (v := .agg (au r4 ⟨aS4, cS4, aD4, cD4, aH4, cH4, (some ⟨gW, 0, none⟩), cW4, aY4, cY4, aB4, cB4, aA4, cA4⟩)) (ax rfl) (by kernel_rfl) (by kernel_rfl) (by kernel_rfl) (by kernel_rfl) (fun _ _ _ h => h) (gG (fun w9 hS => hS.blk) rfl (by rfl) _ rfl rfl) q9 ?_;try simp only [qq]
  refine bg.go [1, 2, 3, 4, 5, 6] ?_;iterate 6 (apply bg.take (ax rfl) (by kernel_rfl) (by rfl) (fun _ _ _ h => h) q9; (· intro w9 hSw; have hq := hSw.blk.cell; have hm := hSw.bm.cell; clear hSw; go_simp; try with_reducible rfl); try simp only [qq])
  refine bg.fin ?_;refine aT 7 fun K hK => ?_
  go_simp;refine hK.out _ _ q9 (fun hNew => ?_);clear hK K hNew;try simp only [qq]
  refine bg.go [8] ?_;iterate 1 (apply bg.take (ax rfl) (by kernel_rfl) (by rfl) (fun _ _ _ h => h) q9; (· intro w9 hSw; have hq := hSw.blk.cell; have hm := hSw.bm.cell; clear hSw; go_simp; try with_reducible rfl); try simp only [qq])
  refine bg.fin ?_;refine aT 9 fun K hK => ?_
  go_simp;clear ct;have SD := hid (ST.out.ext HB.out (show Below wr.heap.size wr wr.drew from (Below.refl _ _).drew));refine (iM B r4 ⟨aS4, cS4, aD4, cD4, aH4, cH4, (some ⟨gW, 0, none⟩), cW4, aY4, cY4, aB4, cB4, aA4, cA4⟩ X4 c4 ⟨8, 0, m.f, 0, 0, 0, t⟩ none [] 0 wr.drew (show B ≤ wr.heap.size from Nat.le_trans HB.out (by have := k2.lt; omega)) SD.out.has (jb _ _ _ _ _ _) (fun q hq x x' _ hx' => by simp at hx') TG.out (fun i s hs => by simp at hs)).mono ?_;obtain ⟨r5, hr5⟩ : ∃ r5, r5 = dw r4 ⟨8, 0, m.f, 0, 0, 0, t⟩ [] := ⟨_, rfl⟩
  rw [← hr5];have E5 := hid (show r5 = jO r3 m.f (r.wish.take (n + 1)) by rw [hr5, ER.out, List.take_add_one, HT.out]; exact (sH _ _ _ _).symm);clear hr5;rintro e w5 ⟨p5, X5, c5, rfl, has5, hb5, ot5⟩;obtain ⟨q1, q2, q3, _⟩ := SD.out.call has5 hb5 ot5;have N5 := hid (SD.out.next HB.out has5 hb5 ot5);clear has5 hb5 ot5;go_wp2_with fail;refine hK.out _ _ ⟨q1, q2⟩ (fun _ => ?_);clear hK K q9;try simp only [qq]
  refine aJ fun K hK => ?_
  rw [if_pos (by rfl)];refine wp_store_row 31 _ _ rfl w.heap.size (au r5 p5) rfl rfl 31 (au r4 ⟨aS4, cS4, aD4, cD4, aH4, cH4, (some ⟨gW, 0, none⟩), cW4, aY4, cY4, aB4, cB4, aA4, cA4⟩) q1 (by kernel_rfl) rfl (by simp [Value.oneCell']) ?_;refine hK.out _ _ ?_;clear hK K;go_wp2_with fail;go_roundw;case rel => exact ⟨n + 1, r5, p5, X5, c5, by omega, by go_num, E5.out, N5.out⟩
  case measure => simp [intOf]; omega
 have e12 : ¬ (n : Int) < (r4.wish.length : Int) := by rw [W4.out]; omega
 obtain rfl : n = r.wish.length := by omega
 go_wp2_with (first
  | ((with_reducible refine ah w.heap.size (au r4 p4) rfl ?_ ?_ ?_); rfl; exact k1)
  | ((with_reducible refine af (w.heap.size + 1 + 1) bP (au r4 p4) rfl rfl ?_ ?_ ?_ ?_ ?_); rfl; rfl; exact k2; simp [Value.oneCell']))
 have hz := setRow_heap _ (w.heap.size + 1 + 1) _ (au r4 p4) _ _ k2;refine az (ty := 31) Try.results114 (w.heap.size + 1 + 1) (au r4 p4) _ ?_ ?_ hz Try.underlying31 rfl (by kernel_rfl) ?_
 ·rfl
 ·rfl
 have E4 : jU r m = r4 := by rw [RES.out, ER.out, List.take_length]
 rw [E4];exact ST.out.same HB.out
end Go.Proofs.Ytjdceoimignnpaa
