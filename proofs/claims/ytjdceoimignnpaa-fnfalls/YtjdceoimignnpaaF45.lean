import Derived.Test.YtjdceoimignnpaaF43
import Derived.Test.YtjdceoimignnpaaF44
namespace Go.Proofs.Ytjdceoimignnpaa
open Go.ChangeShapes Go.WideShapes Go.ChangeAt Go.RowKit next
set_option linter.unusedVariables false
set_option linter.unusedSimpArgs false
set_option maxHeartbeats 32000000
set_option maxRecDepth 20000
structure Fp (g gR o : Nat) (cs ev rs : Array Value) (w : World) : Prop where
 k : aC w g cs 116
 e : aC w (g + 1) ev 124
 r : w.rangeAt gR o rs.toList
theorem Fp.drew {g gR o : Nat} {cs ev rs : Array Value} {w : World} (h : Fp g gR o cs ev rs w) : Fp g gR o cs ev rs w.drew := ⟨aC.drew h.k, aC.drew h.e, h.r⟩
theorem xE {r : Rc} (v : bf r = true) (t : ByteArray) : VR (ik r t) ∧ NK (ik r t) r := by
 cases hu : r.up
 ·rw [ug v hu]; exact ⟨fA.1 v, rfl, rfl⟩
 rw [wL v hu];refine ⟨(fA.1 v).wish hu t, ?_⟩;unfold iC;split
 ·exact ⟨rfl, rfl⟩
 exact NK.refl _
theorem FV {dst : Option Tmp} {s x : Operand} {τ : TypeId} {pos : String} {after : Array Edge} {g : Option (Nat × Bool)} {a : Act} {w : World} {K : Act → World → Prop} {Q : Exit → Act → World → Prop}
  (B : Nat) (gS : Nat) (n c0 : Nat) (xs : List Value) (xa : Addr) (m c : Nat) (news : List Value) (hs : a.eval s = .slice (some ⟨gS, 0, none⟩) n c0) (hx : a.eval x = .slice (some xa) m c) (hown : w.ownsRow B 49 8 (.slice (some ⟨gS, 0, none⟩) n c0) n xs) (hr : aN w (some xa) m c 8 news)
  (h1 : ∀ u ∈ news, u.oneCell' = true) (hN : n + m ≤ 4194304) (hB : B ≤ w.heap.size)
  (h : ∀ a' c' w', w'.ownsRow B 49 8 (.slice a' (n + m) c') (n + m) (xs ++ news) → w.grownBy w' (Value.slice (some ⟨gS, 0, none⟩) n c0).ownBlock → dP w (some ⟨gS, 0, none⟩) a' → (∀ j u, xs[j]? = some u → w'.cell? ⟨gS, j, none⟩ = some u) → K (a.put dst (.slice a' (n + m) c')) w') :
  Oper.wp Try.prog ({ dst := dst, op := .call { callee := .builtin .append, args := #[s, x], argTypes := #[26, 26] }, type := τ, pos := pos, after := after, guard := g } : Oper) a w K Q := by
 obtain ⟨i, q1, q2, q3, q4⟩ := uU;obtain ⟨a', c', w', hrun, h2, h3, h4⟩ := nG (w := w) B 26 τ 49 i (.agg #[.int .i64 0, .int .i64 0, .int .i64 0, .int .i64 0, .int .i64 0, .int .i64 0, .string ⟨#[]⟩, .slice none 0 0]) 8 88 Try.underlying26 q1 q2 q3 q4 rfl (by omega) _ n c0 xs hown _ m c news hr h1 (by unfold maxLen; omega) (by omega) hB;have h5 := F8 (w := w) B 26 τ 49 i (.agg #[.int .i64 0, .int .i64 0, .int .i64 0, .int .i64 0, .int .i64 0, .int .i64 0, .string ⟨#[]⟩, .slice none 0 0]) 8 88 Try.underlying26 q1 q2 q3 q4 gS n c0 xs hown xa m c news hr h1 (by unfold maxLen; omega) (by omega) hrun;unfold Oper.wp execOp;simp only [resolve, invoke, builtin, Sem.run_bind, Sem.run_pure, Result.andThen_ok, List.map_toArray, List.map_cons, List.map_nil, hs, hx, hrun];exact h a' c' w' h2 h3 h4 h5
theorem KX (B : Nat) (d : Wd) (p : kV) (I : List jF) (H : List Mp) (k a : Int) (t : ByteArray) (X : List (Nat × TypeId × Array Value)) (w : World) (h : WB B w d p I H X w) (ht : t.size ≤ 1048576) :
  Calls Try.prog 87 #[.agg (bQ d p), .agg #[.int .i64 k, .int .i64 a, .string t]] w (NU B w d.recs.length X) := by
 obtain ⟨n, hn⟩ : ∃ n, n = d.recs.length := ⟨_, rfl⟩
 have LEN0 := hid hn.symm;rw [← hn];clear hn;have WKd := hid (fZ.1 h.m.ok);have LF := hid (show d.fl.length = H.length by rw [← h.m.fm, List.length_map]);have H6 := hid (show H.length ≤ 600 by have := WKd.out.fl; have := LF.out; omega);have XL := hid (show ∀ u ∈ X, u.1 < w.heap.size from fun u hu => (h.x u hu).1.lt)
 have NEX := hid (show ∀ u ∈ (w.heap.size + 1, 124, #[.int .i64 k, .int .i64 a, .string t]) :: (w.heap.size + 1 + 1, 116, zW) :: X, u.1 ≠ w.heap.size from fun u hu => by
  rcases List.mem_cons.1 hu with rfl | hu
  ·simp
  rcases List.mem_cons.1 hu with rfl | hu
  ·simp; omega
  have := XL.out u hu; omega)
 have HB := hid h.s;have TZ := hid ht;obtain ⟨aR, cR, aF, cF, aX, cX⟩ := p;obtain ⟨gR, curR, eR, hBR, hkR, _⟩ := h.m.cells;dsimp only at eR;subst eR;clear hkR hBR;obtain ⟨V, hV⟩ : ∃ V, V = ((w.alloc (.cells (bQ d ⟨some ⟨gR, 0, none⟩, cR, aF, cF, aX, cX⟩) 116)).alloc (.cells #[.int .i64 k, .int .i64 a, .string t] 124)).alloc (.cells zW 116) := ⟨_, rfl⟩
 obtain ⟨I0, hI0⟩ : ∃ J, J = I.map (gJ w.heap.size) := ⟨_, rfl⟩
 have S0 := hid (show WB B w d ⟨some ⟨gR, 0, none⟩, cR, aF, cF, aX, cX⟩ I0 H ((w.heap.size, 116, bQ d ⟨some ⟨gR, 0, none⟩, cR, aF, cF, aX, cX⟩) :: (w.heap.size + 1, 124, #[.int .i64 k, .int .i64 a, .string t]) :: (w.heap.size + 1 + 1, 116, zW) :: X) V by
  have hb : Below w.heap.size w V := by rw [hV]; exact ae (ae (ae (Below.refl _ _) _) _) _
  rw [hI0];have h1 : aC V w.heap.size (bQ d ⟨some ⟨gR, 0, none⟩, cR, aF, cF, aX, cX⟩) 116 := by rw [hV]; exact ((aC.new _ _ _).alloc _).alloc _
  have h2 : aC V (w.heap.size + 1) #[.int .i64 k, .int .i64 a, .string t] 124 := by rw [hV]; exact (aC.new' _ _ (by simp)).alloc _
  have h3 : aC V (w.heap.size + 1 + 1) zW 116 := by rw [hV]; exact aC.new' _ _ (by simp)
  exact h.JZ hb h1 (Nat.le_refl _) vN h2 (by omega) MZ h3 (by omega) vN)
 have e1 : IntKind.i64.wrap ((d.fl.length : Int) - 1) = (d.fl.length : Int) - 1 := by have := WKd.out.fl; go_arith
 have e2 : IntKind.i64.wrap ((d.recs.length : Int) - 1) = (d.recs.length : Int) - 1 := by have := WKd.out.n5; go_arith
 clear h ht hI0;go_enter Try.func87, Try.ntmps87;go_wp2_with fail;rw [← hV];clear hV;refine (bF a 0 _ V).mono ?_;rintro e w1 ⟨rfl, hw1⟩;subst w1;obtain ⟨f, hf⟩ : ∃ f, f = inB a 0 ((d.fl.length : Int) - 1) := ⟨_, rfl⟩
 rw [← hf];have HF := hid hf;clear hf;have kW := (S0.out.x _ (.head _)).1; have cW := kW.cell; have cE := (S0.out.x _ (.tail _ (.head _))).1.cell;go_wp2_with fail;clear kW cW cE;refine (bF a 0 _ _).mono ?_;rintro e w1 ⟨rfl, hw1⟩;subst w1;obtain ⟨r9, hr⟩ : ∃ f, f = inB a 0 ((d.recs.length : Int) - 1) := ⟨_, rfl⟩
 rw [← hr];have HRR := hid hr;clear hr;clear e1 e2;by_cases k1 : k = 1
 ·subst k1;have kW := (S0.out.x _ (.head _)).1; have cW := kW.cell; have cE := (S0.out.x _ (.tail _ (.head _))).1.cell;go_wp2_with ((with_reducible refine aP w.heap.size (bQ d ⟨some ⟨gR, 0, none⟩, cR, aF, cF, aX, cX⟩) rfl ?_ ?_ ?_); rfl; exact kW);clear kW cW cE;refine (yA B d ⟨some ⟨gR, 0, none⟩, cR, aF, cF, aX, cX⟩ I0 H _ V S0.out.self).mono ?_;rintro e w1 ⟨d', p', J', H', rfl, g1, n1⟩;have G := hid (S0.out.then g1);have kz := (G.out.x _ (.tail _ (.tail _ (.head _)))).1;go_wp2_with ((with_reducible refine aQ (w.heap.size + 1 + 1) zW (bQ d' p') rfl rfl ?_ ?_ ?_ ?_ ?_); rfl; rfl; exact kz; simp [Value.oneCell']);have LEN := hid (show d'.recs.length = n from n1.trans LEN0.out);have hz := setRow_heap _ (w.heap.size + 1 + 1) _ (bQ d' p') _ _ kz;refine az (ty := 116) Try.results87 (w.heap.size + 1 + 1) (bQ d' p') _ ?_ ?_ hz Try.underlying116 rfl (by kernel_rfl) ?_
  ·rfl
  ·rfl
  exact ⟨_, _, _, _, rfl, G.out.ends (.tail _ (.tail _ (.head _))) (fun u hu => ⟨.tail _ (.tail _ (.tail _ hu)), by have := XL.out u hu; omega⟩), LEN.out⟩
 by_cases k2 : k = 2
 ·subst k2;cases f
  ·have LEN := LEN0;have kW := (S0.out.x _ (.head _)).1;have kz := (S0.out.x _ (.tail _ (.tail _ (.head _)))).1;have cW := kW.cell; have cE := (S0.out.x _ (.tail _ (.head _))).1.cell; go_wp2_with (first | ((with_reducible refine aP w.heap.size (bQ d ⟨some ⟨gR, 0, none⟩, cR, aF, cF, aX, cX⟩) rfl ?_ ?_ ?_); rfl; exact kW) | ((with_reducible refine aQ (w.heap.size + 1 + 1) zW (bQ d ⟨some ⟨gR, 0, none⟩, cR, aF, cF, aX, cX⟩) rfl rfl ?_ ?_ ?_ ?_ ?_); rfl; rfl; exact kz; simp [Value.oneCell']));have hz := setRow_heap _ (w.heap.size + 1 + 1) _ (bQ d ⟨some ⟨gR, 0, none⟩, cR, aF, cF, aX, cX⟩) _ _ kz;refine az (ty := 116) Try.results87 (w.heap.size + 1 + 1) (bQ d ⟨some ⟨gR, 0, none⟩, cR, aF, cF, aX, cX⟩) _ ?_ ?_ hz Try.underlying116 rfl (by kernel_rfl) ?_
   ·rfl
   ·rfl
   exact ⟨_, _, _, _, rfl, S0.out.ends (.tail _ (.tail _ (.head _))) (fun u hu => ⟨.tail _ (.tail _ (.tail _ hu)), by have := XL.out u hu; omega⟩), LEN.out⟩
  obtain ⟨kk, rfl⟩ : ∃ kk : Nat, a = (kk : Int) := ⟨a.toNat, by have := (bK.1 HF.out.symm).1; omega⟩
  have KL := hid (show kk < H.length by have := (bK.1 HF.out.symm).2; have := LF.out; omega);have f0 : (0 : Int) ≤ (kk : Int) := by omega
  have f1 : (kk : Int) < (d.fl.length : Int) := by have := KL.out; have := LF.out; omega
  clear HF HRR;have kW := (S0.out.x _ (.head _)).1; have cW := kW.cell; have cE := (S0.out.x _ (.tail _ (.head _))).1.cell;go_wp2_with ((with_reducible refine aP w.heap.size (bQ d ⟨some ⟨gR, 0, none⟩, cR, aF, cF, aX, cX⟩) rfl ?_ ?_ ?_); rfl; exact kW);clear kW cW cE;refine (yL B d ⟨some ⟨gR, 0, none⟩, cR, aF, cF, aX, cX⟩ I0 H kk _ V S0.out.self KL.out).mono ?_;rintro e w1 ⟨d', p', J', rfl, g1, n1⟩;have G := hid (S0.out.then g1);have kz := (G.out.x _ (.tail _ (.tail _ (.head _)))).1;go_wp2_with ((with_reducible refine aQ (w.heap.size + 1 + 1) zW (bQ d' p') rfl rfl ?_ ?_ ?_ ?_ ?_); rfl; rfl; exact kz; simp [Value.oneCell']);have LEN := hid (show d'.recs.length = n from n1.trans LEN0.out);have hz := setRow_heap _ (w.heap.size + 1 + 1) _ (bQ d' p') _ _ kz;refine az (ty := 116) Try.results87 (w.heap.size + 1 + 1) (bQ d' p') _ ?_ ?_ hz Try.underlying116 rfl (by kernel_rfl) ?_
  ·rfl
  ·rfl
  exact ⟨_, _, _, _, rfl, G.out.ends (.tail _ (.tail _ (.head _))) (fun u hu => ⟨.tail _ (.tail _ (.tail _ hu)), by have := XL.out u hu; omega⟩), LEN.out⟩
 by_cases k3 : k = 3
 ·subst k3;cases f
  ·have LEN := LEN0;have kW := (S0.out.x _ (.head _)).1;have kz := (S0.out.x _ (.tail _ (.tail _ (.head _)))).1;have cW := kW.cell; have cE := (S0.out.x _ (.tail _ (.head _))).1.cell; go_wp2_with (first | ((with_reducible refine aP w.heap.size (bQ d ⟨some ⟨gR, 0, none⟩, cR, aF, cF, aX, cX⟩) rfl ?_ ?_ ?_); rfl; exact kW) | ((with_reducible refine aQ (w.heap.size + 1 + 1) zW (bQ d ⟨some ⟨gR, 0, none⟩, cR, aF, cF, aX, cX⟩) rfl rfl ?_ ?_ ?_ ?_ ?_); rfl; rfl; exact kz; simp [Value.oneCell']));have hz := setRow_heap _ (w.heap.size + 1 + 1) _ (bQ d ⟨some ⟨gR, 0, none⟩, cR, aF, cF, aX, cX⟩) _ _ kz;refine az (ty := 116) Try.results87 (w.heap.size + 1 + 1) (bQ d ⟨some ⟨gR, 0, none⟩, cR, aF, cF, aX, cX⟩) _ ?_ ?_ hz Try.underlying116 rfl (by kernel_rfl) ?_
   ·rfl
   ·rfl
   exact ⟨_, _, _, _, rfl, S0.out.ends (.tail _ (.tail _ (.head _))) (fun u hu => ⟨.tail _ (.tail _ (.tail _ hu)), by have := XL.out u hu; omega⟩), LEN.out⟩
  obtain ⟨kk, rfl⟩ : ∃ kk : Nat, a = (kk : Int) := ⟨a.toNat, by have := (bK.1 HF.out.symm).1; omega⟩
  have KL := hid (show kk < H.length by have := (bK.1 HF.out.symm).2; have := LF.out; omega);have f0 : (0 : Int) ≤ (kk : Int) := by omega
  have f1 : (kk : Int) < (d.fl.length : Int) := by have := KL.out; have := LF.out; omega
  clear HF HRR;by_cases hf : d.fl.length < 600
  ·have u2 : decide ((d.fl.length : Int) < 600) = true := decide_eq_true (by omega);have F6 := hid hf;obtain ⟨q, hq⟩ : ∃ q, H[kk]? = some q := ⟨_, List.getElem?_eq_getElem KL.out⟩
   have HQM := hid hq;have MOK := hid (WKd.out.fm q.1 (by rw [← S0.out.m.fm]; exact List.mem_map_of_mem (List.mem_of_getElem? hq)));clear hq;rcases S0.out.m.fr.form with ⟨_, e, _⟩ | ⟨gF, curF, eF, _⟩
   ·have := KL.out; omega
   dsimp only at eF;subst eF;have cW := (S0.out.x _ (.head _)).1.cell;have cE := (S0.out.x _ (.tail _ (.head _))).1.cell;go_wp2_with fail;clear cW cE;have hK0 : Fp w.heap.size gF (kk * 8) (bQ d ⟨some ⟨gR, 0, none⟩, cR, some ⟨gF, 0, none⟩, cF, aX, cX⟩) #[.int .i64 3, .int .i64 (kk : Int), .string t] (bU q.1.1 (.slice q.2.1 q.1.2.length q.2.2)) V := ⟨(S0.out.x _ (.head _)).1, (S0.out.x _ (.tail _ (.head _))).1, kK S0.out.m.fr HQM.out⟩
   refine aI (S := Fp w.heap.size gF (kk * 8) (bQ d ⟨some ⟨gR, 0, none⟩, cR, some ⟨gF, 0, none⟩, cF, aX, cX⟩) #[.int .i64 3, .int .i64 (kk : Int), .string t] (bU q.1.1 (.slice q.2.1 q.1.2.length q.2.2))) 11 (by kernel_rfl) hK0.drew (fun q9 => ?_);simp only [qz, Nat.reduceAdd];obtain ⟨w5, hw5⟩ : ∃ u, u = V.drew := ⟨_, rfl⟩
   have E5 := hid (show Below V.heap.size V w5 by rw [hw5]; exact (Below.refl _ _).drew);rw [← hw5] at q9 ⊢;clear hw5 hK0;refine ak.go [0, 1, 2, 3, 4, 5, 6] ?_;iterate 7 (apply ak.take (ax rfl) (by kernel_rfl) (by rfl) (fun _ _ _ h => h) q9; (· intro w9 hSw; have hq := hSw.k.cell; have hq2 := hSw.e.cell; clear hSw; go_simp; try with_reducible rfl); try simp only [qq])
   refine ak.fin ?_;refine bT (i := 7) (v := .agg (bU q.1.1 (.slice q.2.1 q.1.2.length q.2.2))) (ax rfl) (by kernel_rfl) (by kernel_rfl) (by kernel_rfl) (by kernel_rfl) (fun _ _ _ h => h) (yieldsIf_load_mid (by rfl) 49 _ rfl gF (kk * 8) rfl (bU q.1.1 (.slice q.2.1 q.1.2.length q.2.2)).toList _ (fun w9 hS => hS.r) Try.underlying49 rfl (by kernel_rfl)) q9 ?_;try simp only [qq]
   refine aT 8 fun K hK => ?_
   go_simp;obtain ⟨w6, hw6⟩ : ∃ u, u = w5.alloc (.cells (bU q.1.1 (.slice q.2.1 q.1.2.length q.2.2)) 49) := ⟨_, rfl⟩
   have X6 := hid (show Below w5.heap.size w5 w6 by rw [hw6]; exact ae (Below.refl _ _) _);have E6 := hid (aj E5.out X6.out)
   have N6 := hid (show aN w6 (some ⟨w5.heap.size, 0, none⟩) 1 1 8 (fP q) by
    rw [hw6]
    exact ⟨rfl, fun e => by simp at e, fun y hy => by
     simp only [Option.some.injEq] at hy;subst hy
     exact ⟨rfl, dG (cs := fP q) (aC.new _ _ _)⟩⟩)
   have S6 := hid (S0.out.ext E6.out);rw [← hw6];clear hw6;refine hK.out _ _ ⟨(S6.out.x _ (.head _)).1, (S6.out.x _ (.tail _ (.head _))).1, kK S6.out.m.fr HQM.out⟩ ?_;clear hK K q9;intro q9;try simp only [qq]
   refine aT 9 fun K hK => ?_
   rw [if_pos (by rfl)];refine FV B gF d.fl.length cF (bZ H) ⟨w5.heap.size, 0, none⟩ 1 1 (fP q) rfl rfl (by rw [LF.out]; exact S6.out.m.fr.own) N6.out (fun u hu => mD [q] u (by rw [lN]; exact hu)) (by have := F6.out; omega) S6.out.low ?_;intro a7 c7 w7 q1 q2 q3 q4;rw [LF.out] at q1 q2;have G := hid (S0.out.grow E6.out (S6.out.m.fi q (List.mem_of_getElem? HQM.out)) MOK.out F6.out q1 q2 q3);have K7 := hid (show Fp w.heap.size gF (kk * 8) (bQ d ⟨some ⟨gR, 0, none⟩, cR, some ⟨gF, 0, none⟩, cF, aX, cX⟩) #[.int .i64 3, .int .i64 (kk : Int), .string t] (bU q.1.1 (.slice q.2.1 q.1.2.length q.2.2)) w7 from ⟨(G.out.x _ (.head _)).1, (G.out.x _ (.tail _ (.head _))).1, fun j v hv => q4 _ _ (by rw [tK H kk j q HQM.out (List.getElem?_eq_some_iff.1 hv).1]; exact hv)⟩);clear q1 q2 q3 q4;refine hK.out _ _ K7.out ?_;clear hK K q9;intro q9;try simp only [qq]
   refine ak.go [10] ?_;iterate 1 (apply ak.take (ax rfl) (by kernel_rfl) (by rfl) (fun _ _ _ h => h) q9; (· intro w9 hSw; have hq := hSw.k.cell; have hq2 := hSw.e.cell; clear hSw; go_simp; try with_reducible rfl); try simp only [qq])
   refine ak.fin ?_;refine aJ fun K hK => ?_
   have cB := q9.k.cell;have fB := q9.k.free;go_simp;refine hK.out _ _ ?_;clear hK K q9 cB fB;rw [LF.out];obtain ⟨Y, hY⟩ : ∃ u, u = w7.setCell ⟨w.heap.size, 1, none⟩ (.slice a7 (H.length + 1) c7) := ⟨_, rfl⟩
   have G3 := hid (show WB B w { d with fl := d.fl ++ [q.1] } ⟨some ⟨gR, 0, none⟩, cR, a7, c7, aX, cX⟩ (I0.map (gJ w6.heap.size)) (H ++ [q]) ((w.heap.size, 116, bQ { d with fl := d.fl ++ [q.1] } ⟨some ⟨gR, 0, none⟩, cR, a7, c7, aX, cX⟩) :: (w.heap.size + 1, 124, #[.int .i64 3, .int .i64 (kk : Int), .string t]) :: (w.heap.size + 1 + 1, 116, zW) :: X) Y by
    rw [hY];refine G.out.top (fun b hb => heap_setCell_other _ _ _ _ hb) (cs' := bQ { d with fl := d.fl ++ [q.1] } ⟨some ⟨gR, 0, none⟩, cR, a7, c7, aX, cX⟩) ?_ ((Below.refl _ _).setCell HB.out _) NEX.out;have hl : (d.fl ++ [q.1]).length = H.length + 1 := by rw [List.length_append, LF.out]; rfl
    have := (G.out.x _ (.head _)).1.set (o := 1) (.slice a7 (H.length + 1) c7);rw [← hl] at this ⊢
    exact this)
   rw [← hY];have LEN := hid (show ({ d with fl := d.fl ++ [q.1] } : Wd).recs.length = n from LEN0.out);clear hY G K7;have kW := (G3.out.x _ (.head _)).1;have kz := (G3.out.x _ (.tail _ (.tail _ (.head _)))).1;go_wp2_with (first | ((with_reducible refine aP w.heap.size (bQ { d with fl := d.fl ++ [q.1] } ⟨some ⟨gR, 0, none⟩, cR, a7, c7, aX, cX⟩) rfl ?_ ?_ ?_); rfl; exact kW) | ((with_reducible refine aQ (w.heap.size + 1 + 1) zW (bQ { d with fl := d.fl ++ [q.1] } ⟨some ⟨gR, 0, none⟩, cR, a7, c7, aX, cX⟩) rfl rfl ?_ ?_ ?_ ?_ ?_); rfl; rfl; exact kz; simp [Value.oneCell']));have hz := setRow_heap _ (w.heap.size + 1 + 1) _ (bQ { d with fl := d.fl ++ [q.1] } ⟨some ⟨gR, 0, none⟩, cR, a7, c7, aX, cX⟩) _ _ kz;refine az (ty := 116) Try.results87 (w.heap.size + 1 + 1) (bQ { d with fl := d.fl ++ [q.1] } ⟨some ⟨gR, 0, none⟩, cR, a7, c7, aX, cX⟩) _ ?_ ?_ hz Try.underlying116 rfl (by kernel_rfl) ?_
   ·rfl
   ·rfl
   exact ⟨_, _, _, _, rfl, G3.out.ends (.tail _ (.tail _ (.head _))) (fun u hu => ⟨.tail _ (.tail _ (.tail _ hu)), by have := XL.out u hu; omega⟩), LEN.out⟩
  have e3 : ¬ (d.fl.length : Int) < 600 := by omega
  have u2 : decide ((d.fl.length : Int) < 600) = false := decide_eq_false e3;have LEN := LEN0;have kW := (S0.out.x _ (.head _)).1;have kz := (S0.out.x _ (.tail _ (.tail _ (.head _)))).1;have cW := kW.cell; have cE := (S0.out.x _ (.tail _ (.head _))).1.cell; go_wp2_with (first | ((with_reducible refine aP w.heap.size (bQ d ⟨some ⟨gR, 0, none⟩, cR, aF, cF, aX, cX⟩) rfl ?_ ?_ ?_); rfl; exact kW) | ((with_reducible refine aQ (w.heap.size + 1 + 1) zW (bQ d ⟨some ⟨gR, 0, none⟩, cR, aF, cF, aX, cX⟩) rfl rfl ?_ ?_ ?_ ?_ ?_); rfl; rfl; exact kz; simp [Value.oneCell']));have hz := setRow_heap _ (w.heap.size + 1 + 1) _ (bQ d ⟨some ⟨gR, 0, none⟩, cR, aF, cF, aX, cX⟩) _ _ kz;refine az (ty := 116) Try.results87 (w.heap.size + 1 + 1) (bQ d ⟨some ⟨gR, 0, none⟩, cR, aF, cF, aX, cX⟩) _ ?_ ?_ hz Try.underlying116 rfl (by kernel_rfl) ?_
  ·rfl
  ·rfl
  exact ⟨_, _, _, _, rfl, S0.out.ends (.tail _ (.tail _ (.head _))) (fun u hu => ⟨.tail _ (.tail _ (.tail _ hu)), by have := XL.out u hu; omega⟩), LEN.out⟩
 by_cases k4 : k = 4
 ·subst k4;cases f
  ·have LEN := LEN0;have kW := (S0.out.x _ (.head _)).1;have kz := (S0.out.x _ (.tail _ (.tail _ (.head _)))).1;have cW := kW.cell; have cE := (S0.out.x _ (.tail _ (.head _))).1.cell; go_wp2_with (first | ((with_reducible refine aP w.heap.size (bQ d ⟨some ⟨gR, 0, none⟩, cR, aF, cF, aX, cX⟩) rfl ?_ ?_ ?_); rfl; exact kW) | ((with_reducible refine aQ (w.heap.size + 1 + 1) zW (bQ d ⟨some ⟨gR, 0, none⟩, cR, aF, cF, aX, cX⟩) rfl rfl ?_ ?_ ?_ ?_ ?_); rfl; rfl; exact kz; simp [Value.oneCell']));have hz := setRow_heap _ (w.heap.size + 1 + 1) _ (bQ d ⟨some ⟨gR, 0, none⟩, cR, aF, cF, aX, cX⟩) _ _ kz;refine az (ty := 116) Try.results87 (w.heap.size + 1 + 1) (bQ d ⟨some ⟨gR, 0, none⟩, cR, aF, cF, aX, cX⟩) _ ?_ ?_ hz Try.underlying116 rfl (by kernel_rfl) ?_
   ·rfl
   ·rfl
   exact ⟨_, _, _, _, rfl, S0.out.ends (.tail _ (.tail _ (.head _))) (fun u hu => ⟨.tail _ (.tail _ (.tail _ hu)), by have := XL.out u hu; omega⟩), LEN.out⟩
  obtain ⟨kk, rfl⟩ : ∃ kk : Nat, a = (kk : Int) := ⟨a.toNat, by have := (bK.1 HF.out.symm).1; omega⟩
  have KL := hid (show kk < H.length by have := (bK.1 HF.out.symm).2; have := LF.out; omega);have f0 : (0 : Int) ≤ (kk : Int) := by omega
  have f1 : (kk : Int) < (d.fl.length : Int) := by have := KL.out; have := LF.out; omega
  clear HF HRR;have cW := (S0.out.x _ (.head _)).1.cell;have cE := (S0.out.x _ (.tail _ (.head _))).1.cell;go_wp2_with fail;clear cW cE;obtain ⟨H2, hH2⟩ : ∃ L, L = H.take kk ++ H.drop (kk + 1) := ⟨_, rfl⟩
  have MEM := hid (show ∀ x ∈ H2, x ∈ H from fun x hx => by rw [hH2] at hx; exact zF hx);have WK2 := hid (show WK { d with fl := H2.map (·.1) } by rw [hH2]; exact Ij WKd.out S0.out.m.fm kk);refine (Ah B aF H cF kk d.fl.length V LF.out S0.out.m.fr KL.out H6.out).mono ?_;rw [← hH2];clear hH2;rintro e w2 ⟨a2, c2, rfl, row2, hb2⟩;have S1 := hid (S0.out.fresh.ext hb2);have G := hid (S1.out.NR (row2.low S0.out.low) (fun q hq x hx => mF (row2.lt x hx).1 q hq) MEM.out WK2.out);clear row2 hb2 S1
  have G3 := hid (show WB B w { d with fl := H2.map (·.1) } ⟨some ⟨gR, 0, none⟩, cR, a2, c2, aX, cX⟩ (I0.map (gJ V.heap.size)) H2 ((w.heap.size, 116, bQ { d with fl := H2.map (·.1) } ⟨some ⟨gR, 0, none⟩, cR, a2, c2, aX, cX⟩) :: (w.heap.size + 1, 124, #[.int .i64 4, .int .i64 (kk : Int), .string t]) :: (w.heap.size + 1 + 1, 116, zW) :: X) (w2.setCell ⟨w.heap.size, 1, none⟩ (.slice a2 H2.length c2)) by
   refine G.out.top (fun b hb => heap_setCell_other _ _ _ _ hb) (cs' := bQ { d with fl := H2.map (·.1) } ⟨some ⟨gR, 0, none⟩, cR, a2, c2, aX, cX⟩) ?_ ((Below.refl _ _).setCell HB.out _) NEX.out;have hl : (H2.map (·.1)).length = H2.length := List.length_map _;have := (G.out.x _ (.head _)).1.set (o := 1) (.slice a2 H2.length c2);rw [← hl] at this ⊢
   exact this)
  obtain ⟨d3, hd3⟩ : ∃ x : Wd, x = { d with fl := H2.map (·.1) } := ⟨_, rfl⟩
  have LEN := hid (show d3.recs.length = n by rw [hd3]; exact LEN0.out);rw [← hd3] at G3;clear hd3;have cW := (G.out.x _ (.head _)).1.cell;have fW := (G.out.x _ (.head _)).1.free;have kW := (G3.out.x _ (.head _)).1;have kz := (G3.out.x _ (.tail _ (.tail _ (.head _)))).1;go_wp2_with (first | ((with_reducible refine aP w.heap.size (bQ d3 ⟨some ⟨gR, 0, none⟩, cR, a2, c2, aX, cX⟩) rfl ?_ ?_ ?_); rfl; exact kW) | ((with_reducible refine aQ (w.heap.size + 1 + 1) zW (bQ d3 ⟨some ⟨gR, 0, none⟩, cR, a2, c2, aX, cX⟩) rfl rfl ?_ ?_ ?_ ?_ ?_); rfl; rfl; exact kz; simp [Value.oneCell']));have hz := setRow_heap _ (w.heap.size + 1 + 1) _ (bQ d3 ⟨some ⟨gR, 0, none⟩, cR, a2, c2, aX, cX⟩) _ _ kz;refine az (ty := 116) Try.results87 (w.heap.size + 1 + 1) (bQ d3 ⟨some ⟨gR, 0, none⟩, cR, a2, c2, aX, cX⟩) _ ?_ ?_ hz Try.underlying116 rfl (by kernel_rfl) ?_
  ·rfl
  ·rfl
  exact ⟨_, _, _, _, rfl, G3.out.ends (.tail _ (.tail _ (.head _))) (fun u hu => ⟨.tail _ (.tail _ (.tail _ hu)), by have := XL.out u hu; omega⟩), LEN.out⟩
 by_cases k5 : k = 5
 ·subst k5;cases r9
  ·have LEN := LEN0;have kW := (S0.out.x _ (.head _)).1;have kz := (S0.out.x _ (.tail _ (.tail _ (.head _)))).1;have cW := kW.cell; have cE := (S0.out.x _ (.tail _ (.head _))).1.cell; go_wp2_with (first | ((with_reducible refine aP w.heap.size (bQ d ⟨some ⟨gR, 0, none⟩, cR, aF, cF, aX, cX⟩) rfl ?_ ?_ ?_); rfl; exact kW) | ((with_reducible refine aQ (w.heap.size + 1 + 1) zW (bQ d ⟨some ⟨gR, 0, none⟩, cR, aF, cF, aX, cX⟩) rfl rfl ?_ ?_ ?_ ?_ ?_); rfl; rfl; exact kz; simp [Value.oneCell']));have hz := setRow_heap _ (w.heap.size + 1 + 1) _ (bQ d ⟨some ⟨gR, 0, none⟩, cR, aF, cF, aX, cX⟩) _ _ kz;refine az (ty := 116) Try.results87 (w.heap.size + 1 + 1) (bQ d ⟨some ⟨gR, 0, none⟩, cR, aF, cF, aX, cX⟩) _ ?_ ?_ hz Try.underlying116 rfl (by kernel_rfl) ?_
   ·rfl
   ·rfl
   exact ⟨_, _, _, _, rfl, S0.out.ends (.tail _ (.tail _ (.head _))) (fun u hu => ⟨.tail _ (.tail _ (.tail _ hu)), by have := XL.out u hu; omega⟩), LEN.out⟩
  obtain ⟨i, rfl⟩ : ∃ i : Nat, a = (i : Int) := ⟨a.toNat, by have := (bK.1 HRR.out.symm).1; omega⟩
  have IL := hid (show i < d.recs.length by have := (bK.1 HRR.out.symm).2; omega);have f0 : (0 : Int) ≤ (i : Int) := by omega
  have f1 : (i : Int) < (d.recs.length : Int) := by have := IL.out; omega
  obtain ⟨r, hr9⟩ : ∃ r, d.recs[i]? = some r := ⟨_, List.getElem?_eq_getElem IL.out⟩
  obtain ⟨qi, hqi⟩ : ∃ x, I0[i]? = some x := ⟨_, List.getElem?_eq_getElem (by rw [S0.out.m.li]; exact IL.out)⟩
  have HR := hid hr9;have HQ := hid hqi;have VRr := hid (WKd.out.r i r hr9).1;clear HF HRR hr9 hqi;have kW := (S0.out.x _ (.head _)).1; have cW := kW.cell; have cE := (S0.out.x _ (.tail _ (.head _))).1.cell;go_wp2_with fail;clear kW cW cE;have hK0 : Fp w.heap.size gR (i * 18) (bQ d ⟨some ⟨gR, 0, none⟩, cR, aF, cF, aX, cX⟩) #[.int .i64 5, .int .i64 (i : Int), .string t] (au r qi.p) V := ⟨(S0.out.x _ (.head _)).1, (S0.out.x _ (.tail _ (.head _))).1, S0.out.m.range rfl HR.out HQ.out⟩
  refine aI (S := Fp w.heap.size gR (i * 18) (bQ d ⟨some ⟨gR, 0, none⟩, cR, aF, cF, aX, cX⟩) #[.int .i64 5, .int .i64 (i : Int), .string t] (au r qi.p)) 12 (by kernel_rfl) hK0.drew (fun q9 => ?_);simp only [qz, Nat.reduceAdd];obtain ⟨w4, hw4⟩ : ∃ u, u = V.drew := ⟨_, rfl⟩
  have E4 := hid (show Below V.heap.size V w4 by rw [hw4]; exact (Below.refl _ _).drew);have S4 := hid (S0.out.ext E4.out);rw [← hw4] at q9 ⊢;clear hw4 hK0;refine ak.go [0, 1, 2, 3, 4, 5, 6, 7, 8] ?_;iterate 9 (apply ak.take (ax rfl) (by kernel_rfl) (by rfl) (fun _ _ _ h => h) q9; (· intro w9 hSw; have hq := hSw.k.cell; have hq2 := hSw.e.cell; clear hSw; go_simp; try with_reducible rfl); try simp only [qq])
  refine ak.fin ?_;refine bT (i := 9) (v := .agg (au r qi.p)) (ax rfl) (by kernel_rfl) (by kernel_rfl) (by kernel_rfl) (by kernel_rfl) (fun _ _ _ h => h) (yieldsIf_load_mid (by rfl) 31 _ rfl gR (i * 18) rfl (au r qi.p).toList _ (fun w9 hS => hS.r) Try.underlying31 rfl (by kernel_rfl)) q9 ?_;try simp only [qq]
  refine aT 10 fun K hK => ?_
  go_simp;refine (xg B r qi.p qi.X qi.c w4 (lu VRr.out) (S4.out.m.rc i r qi HR.out HQ.out).1).mono ?_;rintro e w5 ⟨p5, X5, c5, rfl, has5, hb5⟩;have S5 := hid (S4.out.ext hb5);have G := hid (S4.out.put hb5 rfl HR.out has5 (xI (fA.2 VRr.out)).1 (xI (fA.2 VRr.out)).2);clear has5 hb5;go_wp2_with fail;refine hK.out _ _ ⟨(S5.out.x _ (.head _)).1, (S5.out.x _ (.tail _ (.head _))).1, S5.out.m.range rfl HR.out HQ.out⟩ ?_;clear hK K q9;intro q9;try simp only [qq]
  refine ak.go [11] ?_;iterate 1 (apply ak.take (ax rfl) (by kernel_rfl) (by rfl) (fun _ _ _ h => h) q9; (· intro w9 hSw; have hq := hSw.k.cell; have hq2 := hSw.e.cell; clear hSw; go_simp; try with_reducible rfl); try simp only [qq])
  refine ak.fin ?_;refine aJ fun K hK => ?_
  refine wp_store_mid 31 _ _ rfl gR (i * 18) (au (dn r) p5) rfl rfl (S5.out.m.there rfl IL.out) (by kernel_rfl) (pI _ _) ?_;refine hK.out _ _ ?_;clear hK K q9;rw [← rf d i (dn r)] at G;obtain ⟨w6, hw6⟩ : ∃ u, u = w5.setCells gR (i * 18) (au (dn r) p5).toList := ⟨_, rfl⟩
  rw [← hw6] at G ⊢;have LEN := hid (show (gK d i (dn r)).recs.length = n by rw [show (gK d i (dn r)).recs = d.recs.set i (dn r) from rfl, List.length_set]; exact LEN0.out);clear hw6 S4 S5;have kW := (G.out.x _ (.head _)).1;have kz := (G.out.x _ (.tail _ (.tail _ (.head _)))).1;go_wp2_with (first | ((with_reducible refine aP w.heap.size (bQ (gK d i (dn r)) ⟨some ⟨gR, 0, none⟩, cR, aF, cF, aX, cX⟩) rfl ?_ ?_ ?_); rfl; exact kW) | ((with_reducible refine aQ (w.heap.size + 1 + 1) zW (bQ (gK d i (dn r)) ⟨some ⟨gR, 0, none⟩, cR, aF, cF, aX, cX⟩) rfl rfl ?_ ?_ ?_ ?_ ?_); rfl; rfl; exact kz; simp [Value.oneCell']));have hz := setRow_heap _ (w.heap.size + 1 + 1) _ (bQ (gK d i (dn r)) ⟨some ⟨gR, 0, none⟩, cR, aF, cF, aX, cX⟩) _ _ kz;refine az (ty := 116) Try.results87 (w.heap.size + 1 + 1) (bQ (gK d i (dn r)) ⟨some ⟨gR, 0, none⟩, cR, aF, cF, aX, cX⟩) _ ?_ ?_ hz Try.underlying116 rfl (by kernel_rfl) ?_
  ·rfl
  ·rfl
  exact ⟨_, _, _, _, rfl, G.out.ends (.tail _ (.tail _ (.head _))) (fun u hu => ⟨.tail _ (.tail _ (.tail _ hu)), by have := XL.out u hu; omega⟩), LEN.out⟩
 by_cases k6 : k = 6
 ·subst k6;cases r9
  ·have LEN := LEN0;have kW := (S0.out.x _ (.head _)).1;have kz := (S0.out.x _ (.tail _ (.tail _ (.head _)))).1;have cW := kW.cell; have cE := (S0.out.x _ (.tail _ (.head _))).1.cell; go_wp2_with (first | ((with_reducible refine aP w.heap.size (bQ d ⟨some ⟨gR, 0, none⟩, cR, aF, cF, aX, cX⟩) rfl ?_ ?_ ?_); rfl; exact kW) | ((with_reducible refine aQ (w.heap.size + 1 + 1) zW (bQ d ⟨some ⟨gR, 0, none⟩, cR, aF, cF, aX, cX⟩) rfl rfl ?_ ?_ ?_ ?_ ?_); rfl; rfl; exact kz; simp [Value.oneCell']));have hz := setRow_heap _ (w.heap.size + 1 + 1) _ (bQ d ⟨some ⟨gR, 0, none⟩, cR, aF, cF, aX, cX⟩) _ _ kz;refine az (ty := 116) Try.results87 (w.heap.size + 1 + 1) (bQ d ⟨some ⟨gR, 0, none⟩, cR, aF, cF, aX, cX⟩) _ ?_ ?_ hz Try.underlying116 rfl (by kernel_rfl) ?_
   ·rfl
   ·rfl
   exact ⟨_, _, _, _, rfl, S0.out.ends (.tail _ (.tail _ (.head _))) (fun u hu => ⟨.tail _ (.tail _ (.tail _ hu)), by have := XL.out u hu; omega⟩), LEN.out⟩
  obtain ⟨i, rfl⟩ : ∃ i : Nat, a = (i : Int) := ⟨a.toNat, by have := (bK.1 HRR.out.symm).1; omega⟩
  have IL := hid (show i < d.recs.length by have := (bK.1 HRR.out.symm).2; omega);have f0 : (0 : Int) ≤ (i : Int) := by omega
  have f1 : (i : Int) < (d.recs.length : Int) := by have := IL.out; omega
  obtain ⟨r, hr9⟩ : ∃ r, d.recs[i]? = some r := ⟨_, List.getElem?_eq_getElem IL.out⟩
  obtain ⟨qi, hqi⟩ : ∃ x, I0[i]? = some x := ⟨_, List.getElem?_eq_getElem (by rw [S0.out.m.li]; exact IL.out)⟩
  have HR := hid hr9;have HQ := hid hqi;have VRr := hid (WKd.out.r i r hr9).1;clear HF HRR hr9 hqi;have kW := (S0.out.x _ (.head _)).1; have cW := kW.cell; have cE := (S0.out.x _ (.tail _ (.head _))).1.cell;go_wp2_with fail;clear kW cW cE;have hK0 : Fp w.heap.size gR (i * 18) (bQ d ⟨some ⟨gR, 0, none⟩, cR, aF, cF, aX, cX⟩) #[.int .i64 6, .int .i64 (i : Int), .string t] (au r qi.p) V := ⟨(S0.out.x _ (.head _)).1, (S0.out.x _ (.tail _ (.head _))).1, S0.out.m.range rfl HR.out HQ.out⟩
  refine aI (S := Fp w.heap.size gR (i * 18) (bQ d ⟨some ⟨gR, 0, none⟩, cR, aF, cF, aX, cX⟩) #[.int .i64 6, .int .i64 (i : Int), .string t] (au r qi.p)) 12 (by kernel_rfl) hK0.drew (fun q9 => ?_);simp only [qz, Nat.reduceAdd];obtain ⟨w4, hw4⟩ : ∃ u, u = V.drew := ⟨_, rfl⟩
  have E4 := hid (show Below V.heap.size V w4 by rw [hw4]; exact (Below.refl _ _).drew);have S4 := hid (S0.out.ext E4.out);rw [← hw4] at q9 ⊢;clear hw4 hK0;refine ak.go [0, 1, 2, 3, 4, 5, 6, 7, 8] ?_;iterate 9 (apply ak.take (ax rfl) (by kernel_rfl) (by rfl) (fun _ _ _ h => h) q9; (· intro w9 hSw; have hq := hSw.k.cell; have hq2 := hSw.e.cell; clear hSw; go_simp; try with_reducible rfl); try simp only [qq])
  refine ak.fin ?_;refine bT (i := 9) (v := .agg (au r qi.p)) (ax rfl) (by kernel_rfl) (by kernel_rfl) (by kernel_rfl) (by kernel_rfl) (fun _ _ _ h => h) (yieldsIf_load_mid (by rfl) 31 _ rfl gR (i * 18) rfl (au r qi.p).toList _ (fun w9 hS => hS.r) Try.underlying31 rfl (by kernel_rfl)) q9 ?_;try simp only [qq]
  refine aT 10 fun K hK => ?_
  go_simp;refine (AP B r qi.p qi.X qi.c w4 (lu VRr.out) (S4.out.m.rc i r qi HR.out HQ.out).1).mono ?_;rintro e w5 ⟨p5, X5, c5, rfl, has5, hb5⟩;have S5 := hid (S4.out.ext hb5);have G := hid (S4.out.put hb5 rfl HR.out has5 (xm (fA.2 VRr.out)).1 (xm (fA.2 VRr.out)).2);clear has5 hb5;go_wp2_with fail;refine hK.out _ _ ⟨(S5.out.x _ (.head _)).1, (S5.out.x _ (.tail _ (.head _))).1, S5.out.m.range rfl HR.out HQ.out⟩ ?_;clear hK K q9;intro q9;try simp only [qq]
  refine ak.go [11] ?_;iterate 1 (apply ak.take (ax rfl) (by kernel_rfl) (by rfl) (fun _ _ _ h => h) q9; (· intro w9 hSw; have hq := hSw.k.cell; have hq2 := hSw.e.cell; clear hSw; go_simp; try with_reducible rfl); try simp only [qq])
  refine ak.fin ?_;refine aJ fun K hK => ?_
  refine wp_store_mid 31 _ _ rfl gR (i * 18) (au (eu r) p5) rfl rfl (S5.out.m.there rfl IL.out) (by kernel_rfl) (pI _ _) ?_;refine hK.out _ _ ?_;clear hK K q9;rw [← rf d i (eu r)] at G;obtain ⟨w6, hw6⟩ : ∃ u, u = w5.setCells gR (i * 18) (au (eu r) p5).toList := ⟨_, rfl⟩
  rw [← hw6] at G ⊢;have LEN := hid (show (gK d i (eu r)).recs.length = n by rw [show (gK d i (eu r)).recs = d.recs.set i (eu r) from rfl, List.length_set]; exact LEN0.out);clear hw6 S4 S5;have kW := (G.out.x _ (.head _)).1;have kz := (G.out.x _ (.tail _ (.tail _ (.head _)))).1;go_wp2_with (first | ((with_reducible refine aP w.heap.size (bQ (gK d i (eu r)) ⟨some ⟨gR, 0, none⟩, cR, aF, cF, aX, cX⟩) rfl ?_ ?_ ?_); rfl; exact kW) | ((with_reducible refine aQ (w.heap.size + 1 + 1) zW (bQ (gK d i (eu r)) ⟨some ⟨gR, 0, none⟩, cR, aF, cF, aX, cX⟩) rfl rfl ?_ ?_ ?_ ?_ ?_); rfl; rfl; exact kz; simp [Value.oneCell']));have hz := setRow_heap _ (w.heap.size + 1 + 1) _ (bQ (gK d i (eu r)) ⟨some ⟨gR, 0, none⟩, cR, aF, cF, aX, cX⟩) _ _ kz;refine az (ty := 116) Try.results87 (w.heap.size + 1 + 1) (bQ (gK d i (eu r)) ⟨some ⟨gR, 0, none⟩, cR, aF, cF, aX, cX⟩) _ ?_ ?_ hz Try.underlying116 rfl (by kernel_rfl) ?_
  ·rfl
  ·rfl
  exact ⟨_, _, _, _, rfl, G.out.ends (.tail _ (.tail _ (.head _))) (fun u hu => ⟨.tail _ (.tail _ (.tail _ hu)), by have := XL.out u hu; omega⟩), LEN.out⟩
 by_cases k7 : k = 7
 ·subst k7;cases r9
  ·have LEN := LEN0;have kW := (S0.out.x _ (.head _)).1;have kz := (S0.out.x _ (.tail _ (.tail _ (.head _)))).1;have cW := kW.cell; have cE := (S0.out.x _ (.tail _ (.head _))).1.cell; go_wp2_with (first | ((with_reducible refine aP w.heap.size (bQ d ⟨some ⟨gR, 0, none⟩, cR, aF, cF, aX, cX⟩) rfl ?_ ?_ ?_); rfl; exact kW) | ((with_reducible refine aQ (w.heap.size + 1 + 1) zW (bQ d ⟨some ⟨gR, 0, none⟩, cR, aF, cF, aX, cX⟩) rfl rfl ?_ ?_ ?_ ?_ ?_); rfl; rfl; exact kz; simp [Value.oneCell']));have hz := setRow_heap _ (w.heap.size + 1 + 1) _ (bQ d ⟨some ⟨gR, 0, none⟩, cR, aF, cF, aX, cX⟩) _ _ kz;refine az (ty := 116) Try.results87 (w.heap.size + 1 + 1) (bQ d ⟨some ⟨gR, 0, none⟩, cR, aF, cF, aX, cX⟩) _ ?_ ?_ hz Try.underlying116 rfl (by kernel_rfl) ?_
   ·rfl
   ·rfl
   exact ⟨_, _, _, _, rfl, S0.out.ends (.tail _ (.tail _ (.head _))) (fun u hu => ⟨.tail _ (.tail _ (.tail _ hu)), by have := XL.out u hu; omega⟩), LEN.out⟩
  obtain ⟨i, rfl⟩ : ∃ i : Nat, a = (i : Int) := ⟨a.toNat, by have := (bK.1 HRR.out.symm).1; omega⟩
  have IL := hid (show i < d.recs.length by have := (bK.1 HRR.out.symm).2; omega);have f0 : (0 : Int) ≤ (i : Int) := by omega
  have f1 : (i : Int) < (d.recs.length : Int) := by have := IL.out; omega
  obtain ⟨r, hr9⟩ : ∃ r, d.recs[i]? = some r := ⟨_, List.getElem?_eq_getElem IL.out⟩
  obtain ⟨qi, hqi⟩ : ∃ x, I0[i]? = some x := ⟨_, List.getElem?_eq_getElem (by rw [S0.out.m.li]; exact IL.out)⟩
  have HR := hid hr9;have HQ := hid hqi;have VRr := hid (WKd.out.r i r hr9).1;clear HF HRR hr9 hqi;have kW := (S0.out.x _ (.head _)).1; have cW := kW.cell; have cE := (S0.out.x _ (.tail _ (.head _))).1.cell;go_wp2_with fail;clear kW cW cE;have hK0 : Fp w.heap.size gR (i * 18) (bQ d ⟨some ⟨gR, 0, none⟩, cR, aF, cF, aX, cX⟩) #[.int .i64 7, .int .i64 (i : Int), .string t] (au r qi.p) V := ⟨(S0.out.x _ (.head _)).1, (S0.out.x _ (.tail _ (.head _))).1, S0.out.m.range rfl HR.out HQ.out⟩
  refine aI (S := Fp w.heap.size gR (i * 18) (bQ d ⟨some ⟨gR, 0, none⟩, cR, aF, cF, aX, cX⟩) #[.int .i64 7, .int .i64 (i : Int), .string t] (au r qi.p)) 14 (by kernel_rfl) hK0.drew (fun q9 => ?_);simp only [qz, Nat.reduceAdd];obtain ⟨w4, hw4⟩ : ∃ u, u = V.drew := ⟨_, rfl⟩
  have E4 := hid (show Below V.heap.size V w4 by rw [hw4]; exact (Below.refl _ _).drew);have S4 := hid (S0.out.ext E4.out);rw [← hw4] at q9 ⊢;clear hw4 hK0;refine ak.go [0, 1, 2, 3, 4, 5, 6, 7, 8] ?_;iterate 9 (apply ak.take (ax rfl) (by kernel_rfl) (by rfl) (fun _ _ _ h => h) q9; (· intro w9 hSw; have hq := hSw.k.cell; have hq2 := hSw.e.cell; clear hSw; go_simp; try with_reducible rfl); try simp only [qq])
  refine ak.fin ?_;refine bT (i := 9) (v := .agg (au r qi.p)) (ax rfl) (by kernel_rfl) (by kernel_rfl) (by kernel_rfl) (by kernel_rfl) (fun _ _ _ h => h) (yieldsIf_load_mid (by rfl) 31 _ rfl gR (i * 18) rfl (au r qi.p).toList _ (fun w9 hS => hS.r) Try.underlying31 rfl (by kernel_rfl)) q9 ?_;try simp only [qq]
  refine ak.go [10, 11] ?_;iterate 2 (apply ak.take (ax rfl) (by kernel_rfl) (by rfl) (fun _ _ _ h => h) q9; (· intro w9 hSw; have hq := hSw.k.cell; have hq2 := hSw.e.cell; clear hSw; go_simp; try with_reducible rfl); try simp only [qq])
  refine ak.fin ?_;refine aT 12 fun K hK => ?_
  go_simp;refine (AC B r qi.p qi.X qi.c t w4 (lu VRr.out) TZ.out (S4.out.m.rc i r qi HR.out HQ.out).1).mono ?_;rintro e w5 ⟨p5, X5, c5, rfl, has5, hb5⟩;have S5 := hid (S4.out.ext hb5);have G := hid (S4.out.put hb5 rfl HR.out has5 (xE (fA.2 VRr.out) t).1 (xE (fA.2 VRr.out) t).2);clear has5 hb5;go_wp2_with fail;refine hK.out _ _ ⟨(S5.out.x _ (.head _)).1, (S5.out.x _ (.tail _ (.head _))).1, S5.out.m.range rfl HR.out HQ.out⟩ ?_;clear hK K q9;intro q9;try simp only [qq]
  refine ak.go [13] ?_;iterate 1 (apply ak.take (ax rfl) (by kernel_rfl) (by rfl) (fun _ _ _ h => h) q9; (· intro w9 hSw; have hq := hSw.k.cell; have hq2 := hSw.e.cell; clear hSw; go_simp; try with_reducible rfl); try simp only [qq])
  refine ak.fin ?_;refine aJ fun K hK => ?_
  refine wp_store_mid 31 _ _ rfl gR (i * 18) (au (ik r t) p5) rfl rfl (S5.out.m.there rfl IL.out) (by kernel_rfl) (pI _ _) ?_;refine hK.out _ _ ?_;clear hK K q9;rw [← rf d i (ik r t)] at G;obtain ⟨w6, hw6⟩ : ∃ u, u = w5.setCells gR (i * 18) (au (ik r t) p5).toList := ⟨_, rfl⟩
  rw [← hw6] at G ⊢;have LEN := hid (show (gK d i (ik r t)).recs.length = n by rw [show (gK d i (ik r t)).recs = d.recs.set i (ik r t) from rfl, List.length_set]; exact LEN0.out);clear hw6 S4 S5;have kW := (G.out.x _ (.head _)).1;have kz := (G.out.x _ (.tail _ (.tail _ (.head _)))).1;go_wp2_with (first | ((with_reducible refine aP w.heap.size (bQ (gK d i (ik r t)) ⟨some ⟨gR, 0, none⟩, cR, aF, cF, aX, cX⟩) rfl ?_ ?_ ?_); rfl; exact kW) | ((with_reducible refine aQ (w.heap.size + 1 + 1) zW (bQ (gK d i (ik r t)) ⟨some ⟨gR, 0, none⟩, cR, aF, cF, aX, cX⟩) rfl rfl ?_ ?_ ?_ ?_ ?_); rfl; rfl; exact kz; simp [Value.oneCell']));have hz := setRow_heap _ (w.heap.size + 1 + 1) _ (bQ (gK d i (ik r t)) ⟨some ⟨gR, 0, none⟩, cR, aF, cF, aX, cX⟩) _ _ kz;refine az (ty := 116) Try.results87 (w.heap.size + 1 + 1) (bQ (gK d i (ik r t)) ⟨some ⟨gR, 0, none⟩, cR, aF, cF, aX, cX⟩) _ ?_ ?_ hz Try.underlying116 rfl (by kernel_rfl) ?_
  ·rfl
  ·rfl
  exact ⟨_, _, _, _, rfl, G.out.ends (.tail _ (.tail _ (.head _))) (fun u hu => ⟨.tail _ (.tail _ (.tail _ hu)), by have := XL.out u hu; omega⟩), LEN.out⟩
 have LEN := LEN0;have kW := (S0.out.x _ (.head _)).1;have kz := (S0.out.x _ (.tail _ (.tail _ (.head _)))).1;have cW := kW.cell; have cE := (S0.out.x _ (.tail _ (.head _))).1.cell; go_wp2_with (first | ((with_reducible refine aP w.heap.size (bQ d ⟨some ⟨gR, 0, none⟩, cR, aF, cF, aX, cX⟩) rfl ?_ ?_ ?_); rfl; exact kW) | ((with_reducible refine aQ (w.heap.size + 1 + 1) zW (bQ d ⟨some ⟨gR, 0, none⟩, cR, aF, cF, aX, cX⟩) rfl rfl ?_ ?_ ?_ ?_ ?_); rfl; rfl; exact kz; simp [Value.oneCell']));have hz := setRow_heap _ (w.heap.size + 1 + 1) _ (bQ d ⟨some ⟨gR, 0, none⟩, cR, aF, cF, aX, cX⟩) _ _ kz;refine az (ty := 116) Try.results87 (w.heap.size + 1 + 1) (bQ d ⟨some ⟨gR, 0, none⟩, cR, aF, cF, aX, cX⟩) _ ?_ ?_ hz Try.underlying116 rfl (by kernel_rfl) ?_
 ·rfl
 ·rfl
 exact ⟨_, _, _, _, rfl, S0.out.ends (.tail _ (.tail _ (.head _))) (fun u hu => ⟨.tail _ (.tail _ (.tail _ hu)), by have := XL.out u hu; omega⟩), LEN.out⟩
end Go.Proofs.Ytjdceoimignnpaa
