import Derived.Test.YtjdceoimignnpaaF32
namespace Go.Proofs.Ytjdceoimignnpaa
open Go.ChangeShapes Go.WideShapes Go.ChangeAt Go.RowKit next
set_option linter.unusedVariables false
set_option linter.unusedSimpArgs false
set_option maxHeartbeats 16000000
set_option maxRecDepth 20000
variable {ix : Int} {H : List Mp} {l : List Rc} {B k n : Nat} {a : Option Addr} {s : Sl} {e : TypeId} {d : Wd} {w w' : World}
structure jF where
 p : fU
 X : iU
 c : Nat → Nat
def fG : List Rc → List jF → List Value
 | r :: rs, q :: qs => (au r q.p).toList ++ fG rs qs
 | _, _ => []
theorem lZ : ∀ (l : List Rc) (I : List jF), I.length = l.length → (fG l I).length = l.length * 18
 | [], [], _ => rfl
 | [], _ :: _, h => by simp at h
 | _ :: _, [], h => by simp at h
 | r :: l, q :: I, h => by
  have ih := lZ l I (by simpa using h);simp only [fG, List.length_append, Array.length_toList, List.length_cons, ih];show 18 + l.length * 18 = _;omega
theorem mW : ∀ (l : List Rc) (I : List jF) (i : Nat) (r : Rc) (q : jF), l[i]? = some r → I[i]? = some q → ∀ j, j < 18 → (fG l I)[i * 18 + j]? = (au r q.p)[j]?
 | [], _, i, r, q, h, _, _, _ => by simp at h
 | _ :: _, [], i, r, q, _, h, _, _ => by simp at h
 | r0 :: l, q0 :: I, 0, r, q, h1, h2, j, hj => by
  simp only [List.getElem?_cons_zero, Option.some.injEq] at h1 h2;subst h1 h2;simp only [fG];rw [Nat.zero_mul, Nat.zero_add, List.getElem?_append_left (by simpa using hj), Array.getElem?_toList]
 | r0 :: l, q0 :: I, i + 1, r, q, h1, h2, j, hj => by
  simp only [List.getElem?_cons_succ] at h1 h2;have ih := mW l I i r q h1 h2 j hj;simp only [fG];have hl : (au r0 q0.p).toList.length = 18 := rfl;rw [List.getElem?_append_right (by rw [hl]; omega), hl, show (i + 1) * 18 + j - 18 = i * 18 + j by omega];exact ih
structure WM (B : Nat) (w : World) (d : Wd) (p : kV) (I : List jF) (H : List Mp) : Prop where
 li : I.length = d.recs.length
 row : w.ownsRow B 31 18 (.slice p.aR d.recs.length p.cR) d.recs.length (fG d.recs I)
 rc : ∀ (i : Nat) r q, d.recs[i]? = some r → I[i]? = some q → aG B w r q.p q.X q.c ∧ (∀ x, p.aR = some x → 8 < q.c x.block) ∧ (∀ x, p.aF = some x → 8 < q.c x.block)
 fm : H.map (·.1) = d.fl
 fr : iJ B w p.aF H p.cF
 fi : ∀ q ∈ H, aO B w (fun _ => 0) 0 43 2 q.2.1 q.1.2.length q.2.2 (flat q.1.2)
 fx : aO B w (fun _ => 0) 0 137 2 p.aX d.fx.length p.cX (flat d.fx)
 ok : gp d = true
theorem zT {c : Nat} {xs : List Value} (h : w.ownsRow B e k (.slice a n c) n xs) (hs : ∀ b, B ≤ b → b < w.heap.size → w'.heap[b]? = w.heap[b]?) : w'.ownsRow B e k (.slice a n c) n xs :=
 ((aO.mk h (fun _ _ => rfl) : aO B w (fun _ => 0) 0 e k a n c xs).same fun x hx => hs _ ((aO.mk h (fun _ _ => rfl) : aO B w (fun _ => 0) 0 e k a n c xs).lt x hx).1 ((aO.mk h (fun _ _ => rfl) : aO B w (fun _ => 0) 0 e k a n c xs).lt x hx).2).own
variable {I : List jF}
/-- what lies above B stays -/
theorem WM.same {p : kV} (h : WM B w d p I H) (hs : ∀ b, B ≤ b → b < w.heap.size → w'.heap[b]? = w.heap[b]?) : WM B w' d p I H :=
 ⟨h.li, zT h.row hs, fun i r q hr hq => ⟨(h.rc i r q hr hq).1.same fun b hB hlt _ => hs b hB hlt, (h.rc i r q hr hq).2⟩, h.fm, h.fr.same fun x hx => hs _ (h.fr.lt x hx).1 (h.fr.lt x hx).2, fun q hq => (h.fi q hq).same fun x hx => hs _ ((h.fi q hq).lt x hx).1 ((h.fi q hq).lt x hx).2, h.fx.same fun x hx => hs _ (h.fx.lt x hx).1 (h.fx.lt x hx).2, h.ok⟩
theorem WM.ext {p : kV} (h : WM B w d p I H) (hb : Below w.heap.size w w') : WM B w' d p I H := h.same fun b _ hlt => hb.block b hlt
structure WK (d : Wd) : Prop where
 n1 : 1 ≤ d.recs.length
 n5 : d.recs.length ≤ 5
 r : ∀ (i : Nat) r, d.recs[i]? = some r → VR r ∧ r.num = (i : Int) + 1 ∧ r.of_ = (d.recs.length : Int)
 fl : d.fl.length ≤ 600
 fm : ∀ m ∈ d.fl, bY m.1 d.recs.length m.2 = true
 fk : I8 60 (mY d.fx)
 ft : ∀ s ∈ d.fx, s.2.size ≤ 100
theorem fZ : gp d = true ↔ WK d := by
 unfold gp xK xQ La qC;simp only [Bool.and_eq_true, bK, List.all_eq_true, List.mem_range, decide_eq_true_eq, uD];constructor
 ·rintro ⟨⟨⟨⟨h1, h2⟩, h3⟩, h4, h5⟩, h6, h7⟩;refine ⟨by omega, by omega, fun i r hr => ?_, h4, h5, h6, h7⟩;have := h3 i (List.getElem?_eq_some_iff.1 hr).1;rw [hr] at this;simp only [Bool.and_eq_true, decide_eq_true_eq] at this;exact ⟨fA.1 this.1.1, this.1.2, this.2⟩
 ·intro h;refine ⟨⟨⟨⟨by have := h.n1; omega, by have := h.n5; omega⟩, fun i hi => ?_⟩, h.fl, h.fm⟩, h.fk, h.ft⟩;obtain ⟨r, hr⟩ : ∃ r, d.recs[i]? = some r := ⟨_, List.getElem?_eq_getElem hi⟩
  have := h.r i r hr;rw [hr];simp only [Bool.and_eq_true, decide_eq_true_eq];exact ⟨⟨fA.2 this.1, this.2.1⟩, this.2.2⟩
/-- what may be read of a world -/
theorem Hu {B : Nat} {w : World} {col : Nat → Nat} {t u : Nat} {a : Option Addr} {n c : Nat} {H : List Mp} {l : List Ms} (h : aO B w col t 49 8 a n c (bZ H)) (hm : H.map (·.1) = l) (hi : ∀ q ∈ H, aO B w (fun _ => 0) 0 43 2 q.2.1 q.1.2.length q.2.2 (flat q.1.2)) (hg : kC l) : jB w a l := fun i s hs => by
 rw [← hm, List.getElem?_map, Option.map_eq_some_iff] at hs;obtain ⟨m, h0, rfl⟩ := hs;have hs' : l[i]? = some m.1 := by rw [← hm, List.getElem?_map, h0]; rfl
 obtain ⟨g, e0, hg0, c0, _⟩ := h.jV h0 (q := 0) (by omega) rfl;obtain ⟨g1, e1, _, c1, _⟩ := h.jV h0 (q := 1) (by omega) rfl;obtain ⟨g2, e2, _, c2, _⟩ := h.jV h0 (q := 2) (by omega) rfl;obtain ⟨g3, e3, _, c3, _⟩ := h.jV h0 (q := 3) (by omega) rfl;obtain ⟨g4, e4, _, c4, _⟩ := h.jV h0 (q := 4) (by omega) rfl;obtain ⟨g5, e5, _, c5, _⟩ := h.jV h0 (q := 5) (by omega) rfl;obtain ⟨g6, e6, _, c6, _⟩ := h.jV h0 (q := 6) (by omega) rfl;obtain ⟨g7, e7, _, c7, _⟩ := h.jV h0 (q := 7) (by omega) rfl;have q1 := di e0 e1;have q2 := di e0 e2;have q3 := di e0 e3;have q4 := di e0 e4;have q5 := di e0 e5;have q6 := di e0 e6;have q7 := di e0 e7;subst q1 q2 q3 q4 q5 q6 q7;obtain ⟨k1, k2, k3⟩ := hg i _ hs';refine ⟨g7, 0, m.2.1, m.2.2, e0, hg0, ?_, ?_, ?_, ?_, ?_, ?_, ?_, ?_, k1, k2, (hi m (List.mem_of_getElem? h0)).slots k3⟩;all_goals rw [Nat.zero_add]
 all_goals assumption
theorem jQ {B : Nat} {w : World} {col : Nat → Nat} {t u : Nat} {a : Option Addr} {n c : Nat} {H : List Mp} {l : List Ms} (h : aO B w col t 49 8 a n c (bZ H)) (hm : H.map (·.1) = l) (hi : ∀ q ∈ H, aO B w (fun _ => 0) 0 43 2 q.2.1 q.1.2.length q.2.2 (flat q.1.2)) : qV w a l := fun i b off s sa m cap hs ha hc => by
 rw [← hm, List.getElem?_map, Option.map_eq_some_iff] at hs;obtain ⟨q, h0, rfl⟩ := hs;obtain ⟨g, e0, _, c7, _⟩ := h.jV h0 (q := 7) (by omega) rfl;rw [ha] at e0;simp only [Option.some.injEq, Addr.mk.injEq, and_true] at e0;obtain ⟨rfl, rfl⟩ := e0;rw [Nat.zero_add, c7] at hc;simp only [Option.some.injEq, Value.slice.injEq] at hc;obtain ⟨rfl, _, rfl⟩ := hc;exact (hi q (List.mem_of_getElem? h0)).plain
theorem yu {o : Int} {l : List Ms} (h : ∀ m ∈ l, bY m.1 o m.2 = true) : kC l := fun i m hm => by
 have q := pg.1 (h m (List.mem_of_getElem? hm));have x := q.x;have n := q.l.n;refine ⟨by unfold maxLen; omega, by unfold maxLen; omega, fun j s hs => ?_⟩;have k := q.l.s s (List.mem_of_getElem? hs);have t := k.t;exact ⟨by unfold maxLen; omega, ku k.b0 k.b1⟩
theorem WM.lt {p : kV} (h : WM B w d p I H) : ∀ x, p.aR = some x → B ≤ x.block ∧ x.block < w.heap.size := (aO.mk h.row (fun _ _ => rfl) : aO B w (fun _ => 0) 0 31 18 p.aR d.recs.length p.cR (fG d.recs I)).lt
theorem aO.KU {col : Nat → Nat} {t : Nat} {c : Nat} {l : List Sl} (h : aO B w col t e 2 a n c (flat l)) (hg : dE l) : cO w a l := fun i s hs => by
 have hf := iY l i s hs;obtain ⟨g, e1, h1, c0, _⟩ := h.cell hf.1;obtain ⟨g', e2, _, c1, _⟩ := h.cell hf.2;rw [e1] at e2;simp only [Option.some.injEq, Addr.mk.injEq, and_true] at e2;subst e2;exact ⟨g, 0, e1, h1, by rw [Nat.zero_add]; exact c0, by rw [Nat.zero_add]; exact c1, (hg i s hs).1, (hg i s hs).2⟩
/-- the recorders' row -/
theorem WM.cells {p : kV} (h : WM B w d p I H) : ∃ gR cur, p.aR = some ⟨gR, 0, none⟩ ∧ B ≤ gR ∧ aC w gR cur 31 ∧ cur.size = p.cR * 18 ∧ d.recs.length ≤ p.cR ∧ p.cR ≤ maxLen ∧ cur.toList.take (d.recs.length * 18) = fG d.recs I := by
 have n1 := (fZ.1 h.ok).n1;rcases h.row.2 with ⟨_, h2⟩ | ⟨g, cap, cur, h1, h2, h3, h4, h5, h6, h7⟩
 ·omega
 ·simp only [Value.slice.injEq, true_and] at h1;obtain ⟨h8, h9⟩ := h1;rw [h9];exact ⟨g, cur, h8, h2, h3, h6, h4, h5, h7⟩
theorem cells_at {cur : Array Value} (h : cur.toList.take (l.length * 18) = fG l I) {i : Nat} {r : Rc} {q : jF} (hr : l[i]? = some r) (hq : I[i]? = some q) {j : Nat} (hj : j < 18) : cur[i * 18 + j]? = (au r q.p)[j]? := by
 have hi := (List.getElem?_eq_some_iff.1 hr).1;rw [← mW l I i r q hr hq j hj, ← h, List.getElem?_take_of_lt (by omega), Array.getElem?_toList]
theorem WM.at {p : kV} (h : WM B w d p I H) : Ef w d p := by
 have k := fZ.1 h.ok;obtain ⟨gR, cur, ea, hB, hk, hsz, hn, hm, htk⟩ := h.cells;refine ⟨fun i r hr => ?_, by have := k.n5; unfold maxLen; omega, Hu (u := 0) h.fr h.fm h.fi (yu k.fm), by have := k.fl; unfold maxLen; omega, ?_, ?_⟩
 ·have hi := (List.getElem?_eq_some_iff.1 hr).1;obtain ⟨q, hq⟩ : ∃ q, I[i]? = some q := ⟨_, List.getElem?_eq_getElem (by rw [h.li]; exact hi)⟩
  refine ⟨gR, 0, q.p, ea, hk.lt, fun j v hv => ?_, (h.rc i r q hr hq).1.at⟩;have hj : j < 18 := (List.getElem?_eq_some_iff.1 hv).1;rw [Array.getElem?_toList] at hv;show w.cell? ⟨gR, 0 + i * 18 + j, none⟩ = some v;rw [Nat.zero_add, hk.cell, cells_at htk hr hq hj, hv]
 ·refine aO.KU h.fx (fun i s hs => ?_);have hm := List.mem_of_getElem? hs;have h1 := k.ft s hm;have h2 := k.fk.r s.1 (List.mem_map.2 ⟨s, hm, rfl⟩);exact ⟨by unfold maxLen; omega, ku (by omega) (by omega)⟩
 ·exact h.fx.len.1
def gJ (n : Nat) (q : jF) : jF := { q with c := dm n q.c }
theorem qF (n : Nat) : ∀ (l : List Rc) (I : List jF), fG l (I.map (gJ n)) = fG l I
 | [], [] => rfl
 | [], _ :: _ => rfl
 | _ :: _, [] => rfl
 | r :: l, q :: I => by
  simp only [List.map_cons, fG, qF n l I];rfl
theorem WM.fresh {p : kV} (h : WM B w d p I H) : WM B w d p (I.map (gJ w.heap.size)) H := by
 refine ⟨by rw [List.length_map]; exact h.li, by rw [qF]; exact h.row, fun i r q hr hq => ?_, h.fm, h.fr, h.fi, h.fx, h.ok⟩;rw [List.getElem?_map, Option.map_eq_some_iff] at hq;obtain ⟨q0, h0, rfl⟩ := hq;have k := h.rc i r q0 hr h0;exact ⟨k.1.fresh, fun x hx => by show 8 < dm w.heap.size q0.c x.block; rw [bn (h.lt x hx).2]; exact k.2.1 x hx, fun x hx => by show 8 < dm w.heap.size q0.c x.block; rw [bn (h.fr.lt x hx).2]; exact k.2.2 x hx⟩
theorem mF {b : Nat} (hb : n ≤ b) : ∀ q ∈ I.map (gJ n), 8 < q.c b := fun q hq => by
 obtain ⟨q0, _, rfl⟩ := List.mem_map.1 hq;show 8 < dm n q0.c b;rw [bI hb]; omega
theorem WM.box {p : kV} (h : WM B w d p I H) {g : Nat} {cs : Array Value} {T : TypeId} (hk : aC w g cs T) (t1 : 31 ≠ T) (t2 : 49 ≠ T) (t3 : 43 ≠ T) (t4 : 137 ≠ T) (hc : ∀ q ∈ I, 8 < q.c g) (hs : ∀ b, b ≠ g → w'.heap[b]? = w.heap[b]?) : WM B w' d p I H := by
 have rr : aO B w (fun _ => 0) 0 31 18 p.aR d.recs.length p.cR (fG d.recs I) := aO.mk h.row (fun _ _ => rfl);exact ⟨h.li, (rr.same fun x hx => hs _ (rr.ne hk t1 x hx)).own, fun i r q hr hq => ⟨(h.rc i r q hr hq).1.same fun b hB hlt h8 => hs b (fun e => by have := hc q (List.mem_of_getElem? hq); rw [e] at h8; omega), (h.rc i r q hr hq).2⟩, h.fm, h.fr.same fun x hx => hs _ (aO.ne h.fr hk t2 x hx), fun q hq => (h.fi q hq).same fun x hx => hs _ ((h.fi q hq).ne hk t3 x hx), h.fx.same fun x hx => hs _ (h.fx.ne hk t4 x hx), h.ok⟩
/-- what is fixed lies elsewhere now -/
theorem WM.MC {p : kV} (h : WM B w d p I H) {fx : List Sl} {aX : Option Addr} {cX : Nat} (hr : aO B w (fun _ => 0) 0 137 2 aX fx.length cX (flat fx)) (ho : gp { d with fx := fx } = true) : WM B w { d with fx := fx } { p with aX := aX, cX := cX } I H :=
 ⟨h.li, h.row, h.rc, h.fm, h.fr, h.fi, hr, ho⟩
def Oi (w : World) (e : Ending) (w' : World) : Prop := ∃ (t : ByteArray) (b : Bool), e = .returned (.tuple #[.string t, .bool b]) ∧ t.size ≤ 100 ∧ Below w.heap.size w w'
theorem Ez (B : Nat) (d : Wd) (p : kV) (I : List jF) (H : List Mp) (j : Nat) (w : World) (h : WM B w d p I H) (hj : j < 60) :
  Calls Try.prog 108 #[.agg (bQ d p), .int .i64 ((j : Int) + 1)] w (Oi w) := by
 obtain ⟨V, hV⟩ : ∃ V, V = w.alloc (.cells (bQ d p) 116) := ⟨_, rfl⟩
 have BV := hid (show Below w.heap.size w V by rw [hV]; exact ae (Below.refl _ _) _);have S := hid (h.ext BV.out);have KV := hid (show aC V w.heap.size (bQ d p) 116 by rw [hV]; exact aC.new _ _ _);have WKd := hid (fZ.1 h.ok);have n5 := WKd.out.n5;clear h;go_enter Try.func108, Try.ntmps108;go_wp2_with fail;rw [← hV];clear hV;go_loopw [6, 7] (fun i _ wr => ∃ (k : Nat), k ≤ d.recs.length ∧ i = .int .i64 k ∧ Below V.heap.size V wr) (fun i _ _ => d.recs.length - (intOf i).toNat);case atStart => exact ⟨0, Nat.zero_le _, rfl, Below.refl _ _⟩
 obtain ⟨k, hk, rfl, hb⟩ := hrel;have HB := hid hb;have SW := hid (S.out.ext hb);have cV := (KV.out.ext hb).cell;clear hb;by_cases hlt : k < d.recs.length
 ·obtain ⟨r, hr⟩ : ∃ r, d.recs[k]? = some r := ⟨_, List.getElem?_eq_getElem hlt⟩
  obtain ⟨q, hq⟩ : ∃ q, I[k]? = some q := ⟨_, List.getElem?_eq_getElem (by rw [S.out.li]; exact hlt)⟩
  obtain ⟨gR, cur, ea, _, hkR, _, _, _, htk⟩ := SW.out.cells;have c6 : wr.cell? ⟨gR, k * 18 + 6, none⟩ = some (.int .i64 r.dp) := (hkR.cell _).trans (cells_at htk hr hq (by omega));have c7 : wr.cell? ⟨gR, k * 18 + 7, none⟩ = some (.int .i64 r.dk) := (hkR.cell _).trans (cells_at htk hr hq (by omega));have c8 : wr.cell? ⟨gR, k * 18 + 8, none⟩ = some (.slice q.p.aD r.ds.length q.p.cD) := (hkR.cell _).trans (cells_at htk hr hq (by omega));have VRr := hid (WKd.out.r k r hr).1;have HAS := hid (SW.out.rc k r q hr hq).1;obtain ⟨aR, cR, aF, cF, aX, cX⟩ := p;dsimp only at ea;subst ea;clear hkR htk hr hq;have e1 : (0 : Int) ≤ (k : Int) := by omega
  have e2 : (k : Int) < (d.recs.length : Int) := by omega
  have e3 : IntKind.i64.wrap ((k : Int) + 1) = (k : Int) + 1 := by go_arith
  by_cases hd : (j : Int) + 1 ≤ r.dk
  ·have u1 : decide ((j : Int) + 1 ≤ r.dk) = true := decide_eq_true hd;have hjl : j < r.ds.length := by have := VRr.out.d.k1; omega
   obtain ⟨s, hs⟩ : ∃ s, r.ds[j]? = some s := ⟨_, List.getElem?_eq_getElem hjl⟩
   have TS := hid (VRr.out.d.lk.s s (List.mem_of_getElem? hs)).t;obtain ⟨gD, eD, gl, cs, _⟩ := HAS.out.d.cell (iY r.ds j s hs).2;have ct := ((show Below wr.heap.size wr (wr.alloc (.cells #[.int .i64 r.dp, .int .i64 r.dk, .slice q.p.aD r.ds.length q.p.cD] 25)) from ae (Below.refl _ _) _).cell (p := ⟨gD, j * 2 + 1, none⟩) gl).trans cs;rw [eD] at c8 ct;have e4 : IntKind.i64.wrap ((j : Int) + 1 - 1) = (j : Int) := by go_arith
   have e5 : IntKind.i64.wrap (j : Int) = (j : Int) := by go_arith
   have e6 : (0 : Int) ≤ (j : Int) := by omega
   have e7 : (j : Int) < (r.ds.length : Int) := by omega
   clear hs cs eD;go_wp2_with fail;refine bodyPost_ret (v := .tuple #[.string s.2, .bool true]) (by simp [results, Try.results108, go_sem]) rfl ⟨s.2, true, rfl, TS.out, ?_⟩;exact aj BV.out (ae HB.out _)
  ·have u1 : decide ((j : Int) + 1 ≤ r.dk) = false := decide_eq_false hd;go_wp2_with fail;go_roundw;case rel => exact ⟨k + 1, by omega, by go_num, ae HB.out _⟩
   case measure => simp [intOf]; omega
 ·have hkk : k = d.recs.length := by omega
  subst hkk;go_wp2_with fail;exact bodyPost_ret (v := .tuple #[.string ⟨#[]⟩, .bool false]) (by simp [results, Try.results108, go_sem]) rfl ⟨⟨#[]⟩, false, rfl, Nat.zero_le _, aj BV.out HB.out⟩
theorem I9 : ∃ i, Try.prog.info? 137 = some i ∧ i.zero = some (.agg #[.int .i64 0, .string ⟨#[]⟩]) ∧ i.size = 2 ∧ i.bytes = 24 := info_parts (by kernel_rfl)
theorem eH {dst : Option Tmp} {s x : Operand} {τ : TypeId} {pos : String} {after : Array Edge} {g : Option (Nat × Bool)} {a : Act} {w : World} {K : Act → World → Prop} {Q : Exit → Act → World → Prop}
  (B : Nat) (sa : Option Addr) (n c0 : Nat) (xs : List Value) (xa : Option Addr) (m c : Nat) (news : List Value) (hs : a.eval s = .slice sa n c0) (hx : a.eval x = .slice xa m c) (hown : w.ownsRow B 137 2 (.slice sa n c0) n xs) (hr : aN w xa m c 2 news)
  (h1 : ∀ u ∈ news, u.oneCell' = true) (hN : n + m ≤ 4194304) (hB : B ≤ w.heap.size)
  (h : ∀ a' c' w', w'.ownsRow B 137 2 (.slice a' (n + m) c') (n + m) (xs ++ news) → w.grownBy w' (Value.slice sa n c0).ownBlock → dP w sa a' → K (a.put dst (.slice a' (n + m) c')) w') :
  Oper.wp Try.prog ({ dst := dst, op := .call { callee := .builtin .append, args := #[s, x], argTypes := #[114, 114] }, type := τ, pos := pos, after := after, guard := g } : Oper) a w K Q := by
 obtain ⟨i, q1, q2, q3, q4⟩ := I9;obtain ⟨a', c', w', hrun, h2, h3, h4⟩ := nG (w := w) B 114 τ 137 i (.agg #[.int .i64 0, .string ⟨#[]⟩]) 2 24 Try.underlying114 q1 q2 q3 q4 rfl (by omega) sa n c0 xs hown xa m c news hr h1 (by unfold maxLen; omega) (by omega) hB;unfold Oper.wp execOp;simp only [resolve, invoke, builtin, Sem.run_bind, Sem.run_pure, Result.andThen_ok, List.map_toArray, List.map_cons, List.map_nil, hs, hx, hrun];exact h a' c' w' h2 h3 h4
/-- the slot at a place of the safe disk -/
def iR (r : Rc) (ix : Int) : Option Sl := if 1 ≤ ix ∧ ix ≤ (r.ss.length : Int) then r.ss[(ix - 1).toNat]? else none
def Cj (ix : Int) (s : Sl) (r : Rc) : Bool := decide (iR r ix = some s)
/-- how many have it -/
def og (l : List Rc) (ix : Int) (s : Sl) : Nat := l.countP (Cj ix s)
def ul (l : List Rc) (ix : Int) (s : Sl) : Prop := 0 < s.1 ∧ l.length < 2 * og l ix s
instance (l : List Rc) (ix : Int) (s : Sl) : Decidable (ul l ix s) := by unfold ul; exact inferInstance
def Em (l : List Rc) (ix : Int) (r : Rc) : Bool := match iR r ix with | some s => decide (ul l ix s) | none => false
def qw (l : List Rc) (ix : Int) : Option ByteArray := (l.find? (Em l ix)).bind fun r => (iR r ix).map (·.2)
def xW (l : List Rc) (ix : Int) : ByteArray × Bool := match qw l ix with | some t => (t, true) | none => (⟨#[]⟩, false)
theorem Jf (l : List Rc) (ix : Int) {s t : Sl} (h : s ≠ t) : og l ix s + og l ix t ≤ l.length := by
 induction l with
 | nil => simp [og]
 | cons a l ih =>
  simp only [og, List.countP_cons, List.length_cons] at ih ⊢;have hx : (if Cj ix s a = true then 1 else 0) + (if Cj ix t a = true then 1 else 0) ≤ 1 := by
   by_cases h1 : iR a ix = some s
   ·simp [Cj, h1, h]
   ·have h0 : Cj ix s a = false := by simp [Cj, h1]
    rw [h0];simp only [Bool.false_eq_true, if_false];split <;> omega
  omega
theorem Bo {t : Sl} (h1 : ul l ix s) (h2 : ul l ix t) : s = t := Classical.byContradiction fun h => by
 have := Jf l ix h;have := h1.2;have := h2.2;omega
theorem FN {r : Rc} (hr : l[k]? = some r) (hs : iR r ix = some s) (hm : ul l ix s) : qw l ix = some s.2 := by
 have hp : Em l ix r = true := by simp [Em, hs, hm]
 unfold qw;cases hf : l.find? (Em l ix) with
 | none => exact absurd hp (by simpa using List.find?_eq_none.1 hf r (List.mem_of_getElem? hr))
 | some r' =>
  have hp' := List.find?_some hf;unfold Em at hp';cases hs' : iR r' ix with
  | none => rw [hs'] at hp'; simp at hp'
  | some s' =>
   rw [hs'] at hp';have := Bo hm (of_decide_eq_true hp');subst this;simp [hs']
theorem Gh (h : ∀ (k : Nat) r s, l[k]? = some r → iR r ix = some s → ¬ ul l ix s) : qw l ix = none := by
 unfold qw;rw [List.find?_eq_none.2 (fun r hr => ?_)]
 ·rfl
 ·obtain ⟨k, hk, rfl⟩ := List.getElem_of_mem hr;unfold Em;cases hs : iR l[k] ix with
  | none => simp
  | some s => simpa using h k _ s (List.getElem?_eq_getElem hk) hs
theorem Be {r : Rc} (hr : l[k]? = some r) : og (l.take (k + 1)) ix s = og (l.take k) ix s + if iR r ix = some s then 1 else 0 := by
 unfold og;rw [List.take_add_one, hr, List.countP_append];simp [List.countP_cons, Cj]
theorem Jg {r : Rc} (hr : l[k]? = some r) (h : iR r ix = some s) : og (l.take (k + 1)) ix s = og (l.take k) ix s + 1 := by rw [Be hr, if_pos h]
theorem BG {r : Rc} (hr : l[k]? = some r) (h : ¬ iR r ix = some s) : og (l.take (k + 1)) ix s = og (l.take k) ix s := by rw [Be hr, if_neg h]; rfl
theorem Jm (l : List Rc) (ix : Int) (s : Sl) (k : Nat) : og (l.take k) ix s ≤ k := Nat.le_trans (List.countP_le_length) (by simp; omega)
theorem Iu (l : List Rc) (ix : Int) (s : Sl) : og (l.take l.length) ix s = og l ix s := by rw [List.take_length]
theorem DL {t : ByteArray} (h : qw l ix = some t) : xW l ix = (t, true) := by unfold xW; rw [h]
theorem Fg (h : qw l ix = none) : xW l ix = (⟨#[]⟩, false) := by unfold xW; rw [h]
theorem yc {r : Rc} (h1 : 1 ≤ ix) (h2 : ix ≤ (r.ss.length : Int)) (hs : r.ss[(ix - 1).toNat]? = some s) : iR r ix = some s := by unfold iR; rw [if_pos ⟨h1, h2⟩, hs]
theorem rU {r : Rc} (h : ¬ (1 ≤ ix ∧ ix ≤ (r.ss.length : Int))) : iR r ix = none := by unfold iR; rw [if_neg h]
/-- no ballot is below nought -/
def zg (l : List Rc) : Prop := ∀ (k : Nat) r, l[k]? = some r → ∀ (i : Nat) s, r.ss[i]? = some s → 0 ≤ s.1
end Go.Proofs.Ytjdceoimignnpaa
