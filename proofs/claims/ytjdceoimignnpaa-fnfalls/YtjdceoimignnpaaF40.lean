import Derived.Test.YtjdceoimignnpaaF37
import Derived.Test.YtjdceoimignnpaaF39
namespace Go.Proofs.Ytjdceoimignnpaa
open Go.ChangeShapes Go.WideShapes Go.ChangeAt Go.RowKit next
set_option linter.unusedVariables false
set_option linter.unusedSimpArgs false
set_option maxHeartbeats 32000000
set_option maxRecDepth 20000
variable {X : List (Nat × TypeId × Array Value)} {H KL : List Mp} {J : List jF} {B S c2 : Nat} {a2 : Option Addr} {d : Wd} {p : kV} {w0 w2 w6 w7 wr : World}
/-- a tick's world: its box, the answer's place, boxes of the caller -/
structure zy (B : Nat) (w0 : World) (n : Nat) (X : List (Nat × TypeId × Array Value)) (d : Wd) (p : kV) (J : List jF) (H : List Mp) (wr : World) : Prop where
 t : WB B w0 d p J H ((w0.heap.size, 116, bQ d p) :: (w0.heap.size + 1, 116, zW) :: X) wr
 n : d.recs.length = n
 xl : ∀ u ∈ X, u.1 < w0.heap.size
theorem zy.k {n : Nat} (h : zy B w0 n X d p J H wr) : aC wr w0.heap.size (bQ d p) 116 := (h.t.x _ (.head _)).1
theorem zy.z {n : Nat} (h : zy B w0 n X d p J H wr) : aC wr (w0.heap.size + 1) zW 116 := (h.t.x _ (.tail _ (.head _))).1
theorem zy.m {n : Nat} (h : zy B w0 n X d p J H wr) : WM B wr d p J H := h.t.m
theorem zy.ne {n : Nat} (h : zy B w0 n X d p J H wr) : ∀ u ∈ (w0.heap.size + 1, 116, zW) :: X, u.1 ≠ w0.heap.size := fun u hu => by
 rcases List.mem_cons.1 hu with rfl | hu
 ·simp
 ·have := h.xl u hu; omega
theorem zy.ext {n : Nat} (h : zy B w0 n X d p J H wr) (hb : Below wr.heap.size wr w2) : zy B w0 n X d p J H w2 := ⟨h.t.ext hb, h.n, h.xl⟩
theorem zy.put {n : Nat} (h : zy B w0 n X d p J H wr) (hb : Below wr.heap.size wr w2) {j gR : Nat} {r r' : Rc} {p' : fU} {X' : iU} {c' : Nat → Nat} (hg : p.aR = some ⟨gR, 0, none⟩) (hr : d.recs[j]? = some r) (h' : aG wr.heap.size w2 r' p' X' c') (v : VR r') (nk : NK r' r) :
  zy B w0 n X (gK d j r') p (J.set j ⟨p', X', under wr.heap.size c'⟩) H (w2.setCells gR (j * 18) (au r' p').toList) := by
 refine ⟨?_, by rw [show (gK d j r').recs = d.recs.set j r' from rfl, List.length_set]; exact h.n, h.xl⟩;rw [rf];exact h.t.put hb hg hr h' v nk
/-- and what was sent, some of it under way -/
structure KT (B : Nat) (w0 : World) (n : Nat) (S : Nat) (a2 : Option Addr) (KL : List Mp) (c2 : Nat) (X : List (Nat × TypeId × Array Value)) (d : Wd) (p : kV) (J : List jF) (H : List Mp) (wr : World) : Prop where
 t : zy B w0 n X d p J H wr
 r : iJ S wr a2 KL c2
 i : ∀ q ∈ KL, aO S wr (fun _ => 0) 0 43 2 q.2.1 q.1.2.length q.2.2 (flat q.1.2)
 ap : ∀ x y, p.aF = some x → a2 = some y → x.block ≠ y.block
 s : B ≤ S
theorem KT.mid {n : Nat} (h : KT B w0 n S a2 KL c2 X d p J H wr) (hb : Below wr.heap.size wr w6) (hg : w6.grownBy w7 (Value.slice p.aF H.length p.cF).ownBlock) : aC w7 w0.heap.size (bQ d p) 116 ∧ iJ S w7 a2 KL c2 := by
 have h6 := h.t.ext hb
 have hs : ∀ b, b < w6.heap.size → (∀ x, p.aF = some x → b ≠ x.block) → w7.heap[b]? = w6.heap[b]? := fun b hlt hne => hg.block b hlt (fun e => by
  cases ha : p.aF with
  | none => rw [ha] at e; simp [Value.ownBlock] at e
  | some x => rw [ha] at e; simp only [Value.ownBlock, Option.some.injEq] at e; exact hne x ha e)
 exact ⟨(hs _ h6.k.lt (fun x hx e => aO.ne h6.m.fr h6.k (by decide) x hx e.symm)).trans h6.k, (h.r.ext hb).same fun x hx => hs _ ((h.r.ext hb).lt x hx).2 (fun y hy e => h.ap y x hy hx e.symm)⟩
theorem KT.grow {n : Nat} (h : KT B w0 n S a2 KL c2 X d p J H wr) {q : Mp} (hq : q ∈ KL) (hok : bY q.1.1 (n : Int) q.1.2 = true) (hl : d.fl.length < 600) (hb : Below wr.heap.size wr w6) {a' : Option Addr} {c' : Nat}
  (ho : w7.ownsRow B 49 8 (.slice a' (H.length + 1) c') (H.length + 1) (bZ H ++ fP q)) (hg : w6.grownBy w7 (Value.slice p.aF H.length p.cF).ownBlock) (hn : dP w6 p.aF a') :
  KT B w0 n S a2 KL c2 X { d with fl := d.fl ++ [q.1] } { p with aF := a', cF := c' } (J.map (gJ w6.heap.size)) (H ++ [q]) (w7.setCell ⟨w0.heap.size, 1, none⟩ (.slice a' (H.length + 1) c')) := by
 have g7 := h.t.t.grow hb (((h.i q hq).ext hb).low h.s) (by rw [h.t.n]; exact hok) hl ho hg hn;obtain ⟨k7, r7⟩ := h.mid hb hg;have h6 := h.t.ext hb
 have hs : ∀ b, b < w6.heap.size → (∀ x, p.aF = some x → b ≠ x.block) → w7.heap[b]? = w6.heap[b]? := fun b hlt hne => hg.block b hlt (fun e => by
  cases ha : p.aF with
  | none => rw [ha] at e; simp [Value.ownBlock] at e
  | some x => rw [ha] at e; simp only [Value.ownBlock, Option.some.injEq] at e; exact hne x ha e)
 have i7 : ∀ q ∈ KL, aO S w7 (fun _ => 0) 0 43 2 q.2.1 q.1.2.length q.2.2 (flat q.1.2) := fun u hu => by
  have hr := (h.i u hu).ext hb;refine hr.same fun x hx => hs _ (hr.lt x hx).2 ?_
  rcases hr.form with ⟨e, _⟩ | ⟨g, cur, e, _, hb, _⟩
  ·rw [hx] at e; simp at e
  ·rw [hx] at e;simp only [Option.some.injEq] at e;subst e;exact fun x hx e => aO.ne h6.m.fr hb (by decide) x hx e.symm
 have ln : (d.fl ++ [q.1]).length = H.length + 1 := by rw [← h.t.m.fm]; simp
 refine ⟨⟨g7.top (fun b hb => heap_setCell_other _ _ _ _ hb) ?_ ((Below.refl _ _).setCell h.t.t.s _) h.t.ne, h.t.n, h.t.xl⟩, r7.same fun x hx => heap_setCell_other _ _ _ _ (aO.ne r7 k7 (by decide) x hx), fun u hu => (i7 u hu).same fun x hx => heap_setCell_other _ _ _ _ ((i7 u hu).ne k7 (by decide) x hx), fun x y hx hy => ?_, h.s⟩
 ·have := k7.set (o := 1) (.slice a' (H.length + 1) c');rw [← ln] at this ⊢;exact this
 ·rcases hn x hx with ⟨u, hu, e⟩ | hnew
  ·rw [← e];exact h.ap u y hu hy
  ·have := ((h.r.ext hb).lt y hy).2;omega
structure KZ (g gS o : Nat) (cs ms : Array Value) (w : World) : Prop where
 k : aC w g cs 116
 r : w.rangeAt gS o ms.toList
theorem KZ.drew {g gS o : Nat} {cs ms : Array Value} {w : World} (h : KZ g gS o cs ms w) : KZ g gS o cs ms w.drew := ⟨aC.drew h.k, h.r⟩
theorem yA (B : Nat) (d : Wd) (p : kV) (I : List jF) (H : List Mp) (X : List (Nat × TypeId × Array Value)) (w : World) (h : WB B w d p I H X w) :
  Calls Try.prog 93 #[.agg (bQ d p)] w (NU B w d.recs.length X) := by
 have hB := h.s;obtain ⟨n, hn⟩ : ∃ n, n = d.recs.length := ⟨_, rfl⟩
 have N5 := hid (show n ≤ 5 by rw [hn]; exact (fZ.1 h.m.ok).n5);obtain ⟨V, hV⟩ : ∃ V, V = (w.alloc (.cells (bQ d p) 116)).alloc (.cells zW 116) := ⟨_, rfl⟩
 have S0 := hid (show zy B w n X d p (I.map (gJ w.heap.size)) H V by
  have hb : Below w.heap.size w V := by rw [hV]; exact ae (ae (Below.refl _ _) _) _
  have h1 : aC V w.heap.size (bQ d p) 116 := by rw [hV]; exact (aC.new _ _ _).alloc _
  have h2 : aC V (w.heap.size + 1) zW 116 := by rw [hV]; exact aC.new' _ _ (by simp)
  exact ⟨h.CU hb h1 (Nat.le_refl _) vN h2 (by omega) vN, hn.symm, fun u hu => (h.x u hu).1.lt⟩)
 have HB := hid hB;rw [← hn];clear h hB hn;go_enter Try.func93, Try.ntmps93;go_wp2_with fail;rw [← hV];clear hV;go_loopw [3, 4, 5, 6] (fun s3 _ _ _ wr => ∃ (j : Nat) (d1 : Wd) (p1 : kV) (J1 : List jF) (H1 : List Mp), j ≤ n ∧ s3 = .int .i64 j ∧ zy B w n X d1 p1 J1 H1 wr) (fun s3 _ _ _ _ => n - (intOf s3).toNat);case atStart => exact ⟨0, d, p, _, H, Nat.zero_le _, rfl, S0.out⟩
 obtain ⟨j, d1, p1, J1, H1, hj, rfl, hss⟩ := hrel
 rename World => wo
 have S1 := hid hss;clear hss S0;have n5 := N5.out;by_cases hjn : j < n
 ·obtain ⟨r, hr⟩ : ∃ r, d1.recs[j]? = some r := ⟨_, List.getElem?_eq_getElem (by rw [S1.out.n]; exact hjn)⟩
  obtain ⟨qi, hqi⟩ : ∃ q, J1[j]? = some q := ⟨_, List.getElem?_eq_getElem (by rw [S1.out.m.li, S1.out.n]; exact hjn)⟩
  have HR := hid hr;have HQI := hid hqi;have VRr := hid ((fZ.1 S1.out.m.ok).r j r hr).1;have OFr := hid (show r.of_ = (n : Int) by rw [((fZ.1 S1.out.m.ok).r j r hr).2.2, S1.out.n]);clear hr hqi;obtain ⟨aR1, cR1, aF1, cF1, aX1, cX1⟩ := p1;obtain ⟨gR, curR, eR, hBR, hkR, _⟩ := S1.out.m.cells;dsimp only at eR;subst eR;have RG := hid (S1.out.m.range rfl HR.out HQI.out);have rg := RG.out;have e1 : (0 : Int) ≤ (j : Int) := by omega
  have e2 : (j : Int) < (d1.recs.length : Int) := by rw [S1.out.n]; omega
  have u0 : decide ((j : Int) < (d1.recs.length : Int)) = true := decide_eq_true e2;have e9 : IntKind.i64.wrap ((j : Int) + 1) = (j : Int) + 1 := by go_arith
  have cW := S1.out.k.cell;clear hkR hBR;go_wp2_with ((with_reducible refine iQ gR (j * 18) (au r qi.p) rfl ?_ ?_ ?_); rfl; exact rg);refine (zV B r qi.p qi.X qi.c wo (lu VRr.out) (S1.out.m.rc j r qi HR.out HQI.out).1).mono ?_;rintro e w2 ⟨p2, X2, c2, a2, cc2, rfl, has2, _, hb2, KL, hKL, rowK, innK⟩
  have MSG := hid (show ∀ q ∈ KL, bY q.1.1 (n : Int) q.1.2 = true from fun q hq => by
   have h9 := (Jr (fA.2 VRr.out) q.1 (by rw [← hKL]; exact List.mem_map_of_mem hq)).2;rw [OFr.out] at h9
   exact h9)
  obtain ⟨lk, hlk⟩ : ∃ x, x = (jc r).length := ⟨_, rfl⟩
  have LK := hid (show lk = KL.length by rw [hlk, ← hKL, List.length_map]);have VR2 := hid (fA.1 (IG (fA.2 VRr.out)));have NK2 := hid (CX (fA.2 VRr.out));obtain ⟨r', hr'⟩ : ∃ x, x = iG r := ⟨_, rfl⟩
  rw [← hr'] at VR2 NK2 has2;rw [← hr', ← hlk];clear hr' hlk hKL cW rg;obtain ⟨W3, hW3⟩ : ∃ x, x = w2.alloc (.cells (au r' p2) 31) := ⟨_, rfl⟩
  have X3 := hid (show Below w2.heap.size w2 W3 by rw [hW3]; exact ae (Below.refl _ _) _);have E3 := hid (aj hb2 X3.out);have S3 := hid (S1.out.ext E3.out);have HAS3 := hid (has2.ext X3.out);have k5 : aC W3 w2.heap.size (au r' p2) 31 := by rw [hW3]; exact aC.new _ _ _
  have cW3 := S3.out.k.cell;have th := S3.out.m.there (gR := gR) rfl (show j < d1.recs.length by rw [S1.out.n]; exact hjn)
  have S4 := hid (show KT B w n wo.heap.size a2 KL cc2 X (gK d1 j r') ⟨some ⟨gR, 0, none⟩, cR1, aF1, cF1, aX1, cX1⟩ (J1.set j ⟨p2, X2, under wo.heap.size c2⟩) H1 (W3.setCells gR (j * 18) (au r' p2).toList) by
   have hgl := (S1.out.m.lt _ rfl).2;have hgl2 : gR < wo.heap.size := hgl;refine ⟨S1.out.put E3.out rfl HR.out HAS3.out VR2.out NK2.out, (rowK.ext X3.out).same fun x hx => jo gR _ _ _ _ ?_, fun q hq => ((innK.row q hq).ext X3.out).same fun x hx => jo gR _ _ _ _ ?_, fun x y hx hy => ?_, by have := S1.out.k.lt; have := HB.out; omega⟩
   ·have := ((rowK.ext X3.out).lt x hx).1; omega
   ·have := (((innK.row q hq).ext X3.out).lt x hx).1; omega
   have h1 := (S1.out.m.fr.lt x hx).2;have h2 := (rowK.lt y hy).1
   omega)
  clear has2 hb2 rowK innK S3 HAS3;rw [hW3] at k5 cW3 th
  go_upto_block 2 with (first
   | ((with_reducible refine dI (au r' p2) rfl ?_ ?_ ?_ ?_ ?_); rfl; rfl; rfl; simp [Value.oneCell'])
   | ((with_reducible refine ah w2.heap.size (au r' p2) rfl ?_ ?_ ?_); rfl; exact k5)
   | ((with_reducible refine ut gR (j * 18) (au r' p2) rfl ?_ ?_ ?_ ?_ ?_); (· first | rfl | simp [go_sem]); rfl; exact th; (· exact pI _ _)))
  rw [← hW3];clear k5 cW3 th hW3;go_cut [6] from 7 to 50 (fun _ wx => ∃ (d5 : Wd) (p5 : kV) (J5 : List jF) (H5 : List Mp), zy B w n X d5 p5 J5 H5 wx)
  case first =>
   go_wp2_with fail;go_loopw [6] (fun s6 wr => ∃ (kk : Nat) (d5 : Wd) (p5 : kV) (J5 : List jF) (H5 : List Mp), kk ≤ KL.length ∧ s6 = .int .i64 kk ∧ KT B w n wo.heap.size a2 KL cc2 X d5 p5 J5 H5 wr) (fun s6 _ => KL.length - (intOf s6).toNat);case atStart => exact ⟨0, _, _, _, _, Nat.zero_le _, rfl, S4.out⟩
   obtain ⟨kk, d5, p5, J5, H5, hkk, rfl, hss⟩ := hrel;have S5 := hid hss;obtain ⟨wn, hwn⟩ : ∃ v : World, v = wr := ⟨_, rfl⟩
   subst hwn;clear hss S4;obtain ⟨aR5, cR5, aF5, cF5, aX5, cX5⟩ := p5;have LF5 := hid (show d5.fl.length = H5.length by rw [← S5.out.t.m.fm, List.length_map]);have cW := S5.out.t.k.cell;by_cases hkl : kk < KL.length
   ·have e1 : (0 : Int) ≤ (kk : Int) := by omega
    have e2 : (kk : Int) < (lk : Int) := by rw [LK.out]; omega
    have u1 : decide ((kk : Int) < (lk : Int)) = true := decide_eq_true e2;have k60 : (kk : Int) < 9223372036854775807 := by
     have h9 := S5.out.r.len.2;have h8 : cc2 ≤ maxLen := by
      rcases S5.out.r.form with ⟨_, _, e, _⟩ | ⟨_, _, _, _, _, _, h7, _⟩
      ·rw [e]; exact Nat.zero_le _
      exact h7
     unfold maxLen at h8;omega
    have e9 : IntKind.i64.wrap ((kk : Int) + 1) = (kk : Int) + 1 := by go_arith
    by_cases hf : d5.fl.length < 600
    ·have u2 : decide ((d5.fl.length : Int) < 600) = true := decide_eq_true (by omega);have FL5 := hid hf;obtain ⟨q, hq⟩ : ∃ q, KL[kk]? = some q := ⟨_, List.getElem?_eq_getElem hkl⟩
     have HQ := hid hq;clear hq;rcases S5.out.r.form with ⟨_, e, _⟩ | ⟨gS, curS, eS, _⟩
     ·omega
     subst eS;go_wp2_with fail;clear cW;have hK0 : KZ w.heap.size gS (kk * 8) (bQ d5 ⟨aR5, cR5, aF5, cF5, aX5, cX5⟩) (bU q.1.1 (.slice q.2.1 q.1.2.length q.2.2)) wn := ⟨S5.out.t.k, kK S5.out.r HQ.out⟩
     refine aI (S := KZ w.heap.size gS (kk * 8) (bQ d5 ⟨aR5, cR5, aF5, cF5, aX5, cX5⟩) (bU q.1.1 (.slice q.2.1 q.1.2.length q.2.2))) 9 (by kernel_rfl) hK0.drew (fun q9 => ?_);simp only [qz, Nat.reduceAdd];obtain ⟨w5, hw5⟩ : ∃ u, u = wn.drew := ⟨_, rfl⟩
     have E5 := hid (show Below wn.heap.size wn w5 by rw [hw5]; exact (Below.refl _ _).drew);rw [← hw5] at q9 ⊢;clear hw5 hK0;refine ak.go [0, 1, 2, 3, 4] ?_;iterate 5 (refine ak.tk q9 ?_; try simp only [qq])
     refine ak.fin ?_;refine bT (i := 5) (v := .agg (bU q.1.1 (.slice q.2.1 q.1.2.length q.2.2))) (ax rfl) (by kernel_rfl) (by kernel_rfl) (by kernel_rfl) (by kernel_rfl) (fun _ _ _ h => h) (yieldsIf_load_mid (by rfl) 49 _ rfl gS (kk * 8) rfl (bU q.1.1 (.slice q.2.1 q.1.2.length q.2.2)).toList _ (fun w9 hS => hS.r) Try.underlying49 rfl (by kernel_rfl)) q9 ?_;try simp only [qq]
     refine aT 6 fun K hK => ?_
     go_simp;obtain ⟨w6, hw6⟩ : ∃ u, u = w5.alloc (.cells (bU q.1.1 (.slice q.2.1 q.1.2.length q.2.2)) 49) := ⟨_, rfl⟩
     have X6 := hid (show Below w5.heap.size w5 w6 by rw [hw6]; exact ae (Below.refl _ _) _);have E6 := hid (aj E5.out X6.out)
     have N6 := hid (show aN w6 (some ⟨w5.heap.size, 0, none⟩) 1 1 8 (fP q) by
      rw [hw6]
      exact ⟨rfl, fun e => by simp at e, fun y hy => by
       simp only [Option.some.injEq] at hy;subst hy
       exact ⟨rfl, dG (cs := fP q) (aC.new _ _ _)⟩⟩)
     rw [← hw6];clear hw6;refine hK.out _ _ ⟨S5.out.t.k.ext E6.out, kK (S5.out.r.ext E6.out) HQ.out⟩ ?_;clear hK K q9;intro q9;try simp only [qq]
     refine aT 7 fun K hK => ?_
     rw [if_pos (by rfl)];refine oQ B aF5 d5.fl.length cF5 (bZ H5) (some ⟨w5.heap.size, 0, none⟩) 1 1 (fP q) rfl rfl (by rw [LF5.out]; exact (S5.out.t.m.fr.ext E6.out).own) N6.out (fun u hu => mD [q] u (by rw [lN]; exact hu)) (by have := FL5.out; omega) (by have := (S5.out.t.ext E6.out).k.lt; have := HB.out; omega) ?_;intro a7 c7 w7 q1 q2 q3;rw [LF5.out] at q1 q2;have G := hid (S5.out.grow (List.mem_of_getElem? HQ.out) (MSG.out q (List.mem_of_getElem? HQ.out)) FL5.out E6.out q1 q2 q3);have K7 := hid (show KZ w.heap.size gS (kk * 8) (bQ d5 ⟨aR5, cR5, aF5, cF5, aX5, cX5⟩) (bU q.1.1 (.slice q.2.1 q.1.2.length q.2.2)) w7 from ⟨(S5.out.mid E6.out q2).1, kK (S5.out.mid E6.out q2).2 HQ.out⟩);clear q1 q2 q3;refine hK.out _ _ K7.out ?_;clear hK K q9;intro q9;try simp only [qq]
     refine ak.go [8] ?_;iterate 1 (refine ak.tk q9 ?_; try simp only [qq])
     refine ak.fin ?_;refine aJ fun K hK => ?_
     have cB := q9.k.cell;have fB := q9.k.free;go_simp;refine hK.out _ _ ?_;clear hK K q9 cB fB;rw [LF5.out];obtain ⟨Y, hY⟩ : ∃ u, u = w7.setCell ⟨w.heap.size, 1, none⟩ (.slice a7 (H5.length + 1) c7) := ⟨_, rfl⟩
     rw [← hY] at G ⊢;clear hY;go_wp2_with fail;go_roundw;case rel => exact ⟨kk + 1, _, _, _, _, by omega, by go_num, G.out⟩
     case measure => simp [intOf]; omega
    have e3 : ¬ (d5.fl.length : Int) < 600 := by omega
    have u2 : decide ((d5.fl.length : Int) < 600) = false := decide_eq_false e3;go_wp2_with fail
    go_meet
    case rel => exact ⟨d5, _, J5, H5, S5.out.t⟩
   have e2 : ¬ (kk : Int) < (lk : Int) := by rw [LK.out]; omega
   have u1 : decide ((kk : Int) < (lk : Int)) = false := decide_eq_false e2;go_wp2_with fail
   go_meet
   case rel => exact ⟨d5, _, J5, H5, S5.out.t⟩
  case rest =>
   obtain ⟨d5, p5, J5, H5, hss⟩ := hcut;have S5 := hid hss;obtain ⟨wn, hwn⟩ : ∃ v : World, v = wc := ⟨_, rfl⟩
   subst hwn;clear hss S4;have kW := S5.out.k;go_wp2_with ((with_reducible refine aP w.heap.size (bQ d5 p5) rfl ?_ ?_ ?_); rfl; exact kW);clear kW;refine (CZ B d5 p5 J5 H5 wn (by have := HB.out; have := S5.out.k.lt; omega) S5.out.m).mono ?_;rintro e w7 ⟨fx, aX7, cX7, rfl, m7, hb7⟩;have S7 := hid (S5.out.t.fix m7 hb7);clear m7 hb7;have kW := (S7.out.x _ (.head _)).1;go_wp2_with ((with_reducible refine aQ w.heap.size (bQ d5 p5) (bQ { d5 with fx := fx } { p5 with aX := aX7, cX := cX7 }) rfl rfl ?_ ?_ ?_ ?_ ?_); rfl; rfl; exact kW; simp [Value.oneCell'])
   have S8 := hid (show zy B w n X { d5 with fx := fx } { p5 with aX := aX7, cX := cX7 } (J5.map (gJ wn.heap.size)) H5 (w7.setRow w.heap.size (bQ { d5 with fx := fx } { p5 with aX := aX7, cX := cX7 })) from
    ⟨S7.out.top (fun b hb => setRow_other _ _ _ _ hb) (setRow_heap _ w.heap.size _ _ _ _ kW) (ay (Below.refl _ _) HB.out _) S5.out.ne, S5.out.n, S5.out.xl⟩)
   clear kW;go_roundw;case rel => exact ⟨j + 1, _, _, _, _, by omega, by go_num, S8.out⟩
   case measure => simp [intOf]; omega
 have hjj : j = n := by omega
 subst hjj;have kW := S1.out.k;have cW := S1.out.k.cell;have kz := S1.out.z;have e2 : ¬ (j : Int) < (d1.recs.length : Int) := by rw [S1.out.n]; omega
 have u0 : decide ((j : Int) < (d1.recs.length : Int)) = false := decide_eq_false e2;go_wp2_with (first | ((with_reducible refine aP w.heap.size (bQ d1 p1) rfl ?_ ?_ ?_); rfl; exact kW) | ((with_reducible refine aQ (w.heap.size + 1) zW (bQ d1 p1) rfl rfl ?_ ?_ ?_ ?_ ?_); rfl; rfl; exact kz; simp [Value.oneCell']));have hz := setRow_heap _ (w.heap.size + 1) _ (bQ d1 p1) _ _ kz;refine az (ty := 116) Try.results93 (w.heap.size + 1) (bQ d1 p1) _ ?_ ?_ hz Try.underlying116 rfl (by kernel_rfl) ?_
 ·rfl
 ·rfl
 exact ⟨d1, p1, J1, H1, rfl, S1.out.t.ends (.tail _ (.head _)) (fun u hu => ⟨.tail _ (.tail _ hu), by have := S1.out.xl u hu; omega⟩), S1.out.n⟩
theorem Ho : ∃ i, Try.prog.info? 31 = some i ∧ i.zero = some (.agg bP) ∧ i.size = 18 ∧ i.bytes = 248 := info_parts (by kernel_rfl)
theorem Jt {dst : Option Tmp} {s x : Operand} {τ : TypeId} {pos : String} {after : Array Edge} {g : Option (Nat × Bool)} {a : Act} {w : World} {K : Act → World → Prop} {Q : Exit → Act → World → Prop}
  (B : Nat) (sa : Option Addr) (n c0 : Nat) (xs : List Value) (xa : Option Addr) (m c : Nat) (news : List Value) (hs : a.eval s = .slice sa n c0) (hx : a.eval x = .slice xa m c) (hown : w.ownsRow B 31 18 (.slice sa n c0) n xs) (hr : aN w xa m c 18 news)
  (h1 : ∀ u ∈ news, u.oneCell' = true) (hN : n + m ≤ 4194304) (hB : B ≤ w.heap.size)
  (h : ∀ a' c' w', w'.ownsRow B 31 18 (.slice a' (n + m) c') (n + m) (xs ++ news) → w.grownBy w' (Value.slice sa n c0).ownBlock → dP w sa a' → K (a.put dst (.slice a' (n + m) c')) w') :
  Oper.wp Try.prog ({ dst := dst, op := .call { callee := .builtin .append, args := #[s, x], argTypes := #[113, 113] }, type := τ, pos := pos, after := after, guard := g } : Oper) a w K Q := by
 obtain ⟨i, q1, q2, q3, q4⟩ := Ho;obtain ⟨a', c', w', hrun, h2, h3, h4⟩ := nG (w := w) B 113 τ 31 i (.agg bP) 18 248 Try.underlying113 q1 q2 q3 q4 rfl (by omega) sa n c0 xs hown xa m c news hr h1 (by unfold maxLen; omega) (by omega) hB;unfold Oper.wp execOp;simp only [resolve, invoke, builtin, Sem.run_bind, Sem.run_pure, Result.andThen_ok, List.map_toArray, List.map_cons, List.map_nil, hs, hx, hrun];exact h a' c' w' h2 h3 h4
end Go.Proofs.Ytjdceoimignnpaa
