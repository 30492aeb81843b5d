import Derived.Test.YtjdceoimignnpaaF41
namespace Go.Proofs.Ytjdceoimignnpaa
open Go.ChangeShapes Go.WideShapes Go.ChangeAt Go.RowKit next
set_option linter.unusedVariables false
set_option linter.unusedSimpArgs false
set_option maxHeartbeats 32000000
set_option maxRecDepth 20000
variable {cs : Array Value} {g : Nat} {w : World}
structure x8 (g : Nat) (cs : Array Value) (w : World) : Prop where
 k : aC w g cs 116
theorem x8.ext {w' : World} (h : x8 g cs w) (hb : Below w.heap.size w w') : x8 g cs w' := ⟨h.k.ext hb⟩
structure Lc (g g3 gR u : Nat) (cs os rs : Array Value) (w : World) : Prop where
 k : aC w g cs 116
 o : aC w g3 os 116
 r : w.rangeAt gR u rs.toList
theorem Lc.drew {g3 gR u : Nat} {os rs : Array Value} (h : Lc g g3 gR u cs os rs w) : Lc g g3 gR u cs os rs w.drew := ⟨aC.drew h.k, aC.drew h.o, h.r⟩
def Oh (w : World) (d : Wd) (e : Ending) (w' : World) : Prop := ∃ p' J H', e = .returned (.agg (bQ d p')) ∧ WM w.heap.size w' d p' J H' ∧ Below w.heap.size w w'
theorem qQ (B : Nat) (d : Wd) (p : kV) (I : List jF) (H : List Mp) (w : World) (h : WM B w d p I H) :
  Calls Try.prog 91 #[.agg (bQ d p)] w (Oh w d) := by
 have WKd := hid (fZ.1 h.ok);have OK := hid h.ok;have FL := hid (show d.fl.length ≤ 1048576 by have := WKd.out.fl; omega);have XN := hid (show 0 + d.fx.length ≤ 4194304 by have := (tu WKd.out).lX; omega);obtain ⟨aR, cR, aF, cF, aX, cX⟩ := p;obtain ⟨gR, curR, eR, hBR, hkR, _⟩ := h.cells;dsimp only at eR;subst eR;have GRL := hid (show gR < w.heap.size from hkR.lt);clear hkR hBR;obtain ⟨V, hV⟩ : ∃ V, V = (w.alloc (.cells (bQ d ⟨some ⟨gR, 0, none⟩, cR, aF, cF, aX, cX⟩) 116)).alloc (.cells zW 116) := ⟨_, rfl⟩
 have BV := hid (show Below w.heap.size w V by rw [hV]; exact ae (ae (Below.refl _ _) _) _);have K0 := hid (show aC V w.heap.size (bQ d ⟨some ⟨gR, 0, none⟩, cR, aF, cF, aX, cX⟩) 116 by rw [hV]; exact (aC.new _ _ _).alloc _);have Z0 := hid (show aC V (w.heap.size + 1) zW 116 by rw [hV]; exact aC.new' _ _ (by simp));have M0 := hid (h.ext BV.out);have MA := hid (M0.out.at.hF);have MP := hid (jQ (u := 0) M0.out.fr M0.out.fm M0.out.fi);have MS := hid (show jw d.fl from (tu WKd.out).nF);have RX := hid (show aN V aX d.fx.length cX 2 (flat d.fx) from M0.out.fx.read);have FO := hid (show ∀ u ∈ flat d.fx, u.oneCell' = true from fM d.fx);clear h;go_enter Try.func91, Try.ntmps91;go_wp2_with fail;rw [← hV];clear hV;refine zx (Nj V d ⟨some ⟨gR, 0, none⟩, cR, aF, cF, aX, cX⟩ w.heap.size) (fun _ _ dst _ _ h => by cases dst <;> exact h) (fun QQ hP KF => ?_) ?_
 ·refine aI (S := x8 w.heap.size (bQ d ⟨some ⟨gR, 0, none⟩, cR, aF, cF, aX, cX⟩)) 9 (by kernel_rfl) (show x8 w.heap.size (bQ d ⟨some ⟨gR, 0, none⟩, cR, aF, cF, aX, cX⟩) V.drew from ⟨aC.drew K0.out⟩) (fun q9 => ?_);simp only [qz, Nat.reduceAdd];obtain ⟨v0, hv0⟩ : ∃ u, u = V.drew := ⟨_, rfl⟩
  have C0 := hid (show C1 V d none none none v0 by rw [hv0]; exact ⟨(Below.refl _ _).drew, fun _ _ _ e => by simp at e, fun _ _ _ e => by simp at e, fun _ e => by simp at e⟩);rw [← hv0] at q9 ⊢;clear hv0;refine bT (i := 0) (v := ?_) (ax rfl) (by kernel_rfl) (by kernel_rfl) (by kernel_rfl) (by kernel_rfl) (fun c a w h => hP c a _ _ w h) (Or.inl ⟨by rfl, ?_⟩) q9 ?_;rotate_left
  ·(intro w9 hSw; have hq := hSw.k.cell; clear hSw; go_simp; try with_reducible rfl)
  try simp only [qq]
  refine bT (i := 1) (v := ?_) (ax rfl) (by kernel_rfl) (by kernel_rfl) (by kernel_rfl) (by kernel_rfl) (fun c a w h => hP c a _ _ w h) (Or.inl ⟨by rfl, ?_⟩) q9 ?_;rotate_left
  ·(intro w9 hSw; have hq := hSw.k.cell; clear hSw; go_simp; try with_reducible rfl)
  try simp only [qq]
  refine bT (i := 4) (v := ?_) (ax rfl) (by kernel_rfl) (by kernel_rfl) (by kernel_rfl) (by kernel_rfl) (fun c a w h => hP c a _ _ w h) (Or.inl ⟨by rfl, ?_⟩) q9 ?_;rotate_left
  ·(intro w9 hSw; have hq := hSw.k.cell; clear hSw; go_simp; try with_reducible rfl)
  try simp only [qq]
  refine bT (i := 5) (v := ?_) (ax rfl) (by kernel_rfl) (by kernel_rfl) (by kernel_rfl) (by kernel_rfl) (fun c a w h => hP c a _ _ w h) (Or.inl ⟨by rfl, ?_⟩) q9 ?_;rotate_left
  ·(intro w9 hSw; have hq := hSw.k.cell; clear hSw; go_simp; try with_reducible rfl)
  try simp only [qq]
  refine bu (rs := [2, 3, 8]) (by kernel_rfl) (by simp) ?_;refine aK.cons (ax rfl) (fun K hK => ?_) (aK.cons (ax rfl) (fun K hK => ?_) (aK.cons (ax rfl) (fun K hK => ?_) aK.nil))
  ·go_simp;refine (nz aF d.fl d.fl.length cF v0 rfl FL.out MS.out (jQ (u := 0) (M0.out.ext C0.out.b).fr M0.out.fm (M0.out.ext C0.out.b).fi) (MA.out.ext C0.out.b)).mono ?_;rintro e v1 ⟨g1, c1, H1, rfl, hz, hm, hi, hb⟩;have CC1 := hid (C0.out.FH hb hz rfl hm hi);have SS := q9.ext hb;clear hz hm hi hb C0;go_wp2_with fail;refine hK.out _ _ SS ?_;clear hK K q9;intro q9;try simp only [qq]
   clear SS;refine bu (rs := [3, 8]) (by kernel_rfl) (by simp) ?_;refine aK.cons (ax rfl) (fun K hK => ?_) (aK.cons (ax rfl) (fun K hK => ?_) aK.nil)
   ·go_simp;obtain ⟨v2, hv2⟩ : ∃ u, u = v1.alloc (.cells #[] 137) := ⟨_, rfl⟩
    have CC2 := hid (show C1 V d _ _ _ v2 by rw [hv2]; exact CC1.out.nil);have SS := q9.ext (show Below v1.heap.size v1 v2 by rw [hv2]; exact ae (Below.refl _ _) _);rw [← hv2];clear hv2 CC1;refine hK.out _ _ SS ?_;clear hK K q9;intro q9;try simp only [qq]
    clear SS;refine bu (rs := [6, 8]) (by kernel_rfl) (by simp) ?_;refine aK.cons (ax rfl) (fun K hK => ?_) (aK.cons (ax rfl) (fun K hK => ?_) aK.nil)
    ·rw [if_pos (by rfl)];refine eH V.heap.size (some ⟨v1.heap.size, 0, none⟩) 0 0 [] aX d.fx.length cX (flat d.fx) rfl rfl (CC2.out.x _ _ _ rfl).own (RX.out.ext CC2.out.b) FO.out XN.out CC2.out.b.size ?_;rw [Nat.zero_add, List.nil_append];intro a3 c3 v3 q1 q2 q3;have CC3 := hid (CC2.out.app rfl q1 q2);have SS : x8 w.heap.size (bQ d ⟨some ⟨gR, 0, none⟩, cR, aF, cF, aX, cX⟩) v3 := ⟨K0.out.ext CC3.out.b⟩
     clear q1 q2 q3 CC2;refine hK.out _ _ SS ?_;clear hK K q9;intro q9;try simp only [qq]
     clear SS;refine bT (i := 7) (v := .agg #[.slice none 0 0, .slice (some ⟨g1, 0, none⟩) d.fl.length c1, .slice a3 d.fx.length c3]) (ax rfl) (by kernel_rfl) (by kernel_rfl) (by kernel_rfl) (by kernel_rfl) (fun c a w h => hP c a _ _ w h) (Or.inl ⟨by rfl, fun w9 _ => by go_simp; try with_reducible rfl⟩) q9 ?_;try simp only [qq]
     refine aT 8 fun K hK => ?_
     go_simp;obtain ⟨v4, hv4⟩ : ∃ u, u = v3.alloc (.cells zW 116) := ⟨_, rfl⟩
     have CC4 := hid (show C1 V d _ _ _ v4 by rw [hv4]; exact CC3.out.box);have SS := q9.ext (show Below v3.heap.size v3 v4 by rw [hv4]; exact ae (Below.refl _ _) _);rw [← hv4];clear hv4 CC3;refine hK.out _ _ SS ?_;clear hK K q9;intro q9;try simp only [qq]
     clear SS;refine aJ fun K hK => ?_
     rw [if_pos (by rfl)];refine wp_store_row 116 _ _ rfl (v3.heap.size) #[.slice none 0 0, .slice (some ⟨g1, 0, none⟩) d.fl.length c1, .slice a3 d.fx.length c3] rfl rfl 116 zW (CC4.out.o _ rfl).1 (by kernel_rfl) rfl (by simp [Value.oneCell']) ?_;refine hK.out _ _ ?_;refine KF.out _ _ ⟨v3.heap.size, g1, c1, H1, v1.heap.size, a3, c3, ?_, CC4.out.done⟩;try simp only [qq]
    go_simp;obtain ⟨v5, hv5⟩ : ∃ u, u = v2.alloc (.cells zW 116) := ⟨_, rfl⟩
    have CC5 := hid (show C1 V d _ _ _ v5 by rw [hv5]; exact CC2.out.box);have SS := q9.ext (show Below v2.heap.size v2 v5 by rw [hv5]; exact ae (Below.refl _ _) _);rw [← hv5];clear hv5 CC2;refine hK.out _ _ SS ?_;clear hK K q9;intro q9;try simp only [qq]
    clear SS;refine aT 6 fun K hK => ?_
    rw [if_pos (by rfl)];refine eH V.heap.size (some ⟨v1.heap.size, 0, none⟩) 0 0 [] aX d.fx.length cX (flat d.fx) rfl rfl (CC5.out.x _ _ _ rfl).own (RX.out.ext CC5.out.b) FO.out XN.out CC5.out.b.size ?_;rw [Nat.zero_add, List.nil_append];intro a6 c6 v6 q1 q2 q3;have CC6 := hid (CC5.out.app rfl q1 q2);have SS : x8 w.heap.size (bQ d ⟨some ⟨gR, 0, none⟩, cR, aF, cF, aX, cX⟩) v6 := ⟨K0.out.ext CC6.out.b⟩
    clear q1 q2 q3 CC5;refine hK.out _ _ SS ?_;clear hK K q9;intro q9;try simp only [qq]
    clear SS;refine bT (i := 7) (v := .agg #[.slice none 0 0, .slice (some ⟨g1, 0, none⟩) d.fl.length c1, .slice a6 d.fx.length c6]) (ax rfl) (by kernel_rfl) (by kernel_rfl) (by kernel_rfl) (by kernel_rfl) (fun c a w h => hP c a _ _ w h) (Or.inl ⟨by rfl, fun w9 _ => by go_simp; try with_reducible rfl⟩) q9 ?_;try simp only [qq]
    refine aJ fun K hK => ?_
    rw [if_pos (by rfl)];refine wp_store_row 116 _ _ rfl (v2.heap.size) #[.slice none 0 0, .slice (some ⟨g1, 0, none⟩) d.fl.length c1, .slice a6 d.fx.length c6] rfl rfl 116 zW (CC6.out.o _ rfl).1 (by kernel_rfl) rfl (by simp [Value.oneCell']) ?_;refine hK.out _ _ ?_;refine KF.out _ _ ⟨v2.heap.size, g1, c1, H1, v1.heap.size, a6, c6, ?_, CC6.out.done⟩;try simp only [qq]
   go_simp;obtain ⟨v7, hv7⟩ : ∃ u, u = v1.alloc (.cells zW 116) := ⟨_, rfl⟩
   have CC7 := hid (show C1 V d _ _ _ v7 by rw [hv7]; exact CC1.out.box);have SS := q9.ext (show Below v1.heap.size v1 v7 by rw [hv7]; exact ae (Below.refl _ _) _);rw [← hv7];clear hv7 CC1;refine hK.out _ _ SS ?_;clear hK K q9;intro q9;try simp only [qq]
   clear SS;refine aT 3 fun K hK => ?_
   go_simp;obtain ⟨v8, hv8⟩ : ∃ u, u = v7.alloc (.cells #[] 137) := ⟨_, rfl⟩
   have CC8 := hid (show C1 V d _ _ _ v8 by rw [hv8]; exact CC7.out.nil);have SS := q9.ext (show Below v7.heap.size v7 v8 by rw [hv8]; exact ae (Below.refl _ _) _);rw [← hv8];clear hv8 CC7;refine hK.out _ _ SS ?_;clear hK K q9;intro q9;try simp only [qq]
   clear SS;refine aT 6 fun K hK => ?_
   rw [if_pos (by rfl)];refine eH V.heap.size (some ⟨v7.heap.size, 0, none⟩) 0 0 [] aX d.fx.length cX (flat d.fx) rfl rfl (CC8.out.x _ _ _ rfl).own (RX.out.ext CC8.out.b) FO.out XN.out CC8.out.b.size ?_;rw [Nat.zero_add, List.nil_append];intro a9 c9 v9 q1 q2 q3;have CC9 := hid (CC8.out.app rfl q1 q2);have SS : x8 w.heap.size (bQ d ⟨some ⟨gR, 0, none⟩, cR, aF, cF, aX, cX⟩) v9 := ⟨K0.out.ext CC9.out.b⟩
   clear q1 q2 q3 CC8;refine hK.out _ _ SS ?_;clear hK K q9;intro q9;try simp only [qq]
   clear SS;refine bT (i := 7) (v := .agg #[.slice none 0 0, .slice (some ⟨g1, 0, none⟩) d.fl.length c1, .slice a9 d.fx.length c9]) (ax rfl) (by kernel_rfl) (by kernel_rfl) (by kernel_rfl) (by kernel_rfl) (fun c a w h => hP c a _ _ w h) (Or.inl ⟨by rfl, fun w9 _ => by go_simp; try with_reducible rfl⟩) q9 ?_;try simp only [qq]
   refine aJ fun K hK => ?_
   rw [if_pos (by rfl)];refine wp_store_row 116 _ _ rfl (v1.heap.size) #[.slice none 0 0, .slice (some ⟨g1, 0, none⟩) d.fl.length c1, .slice a9 d.fx.length c9] rfl rfl 116 zW (CC9.out.o _ rfl).1 (by kernel_rfl) rfl (by simp [Value.oneCell']) ?_;refine hK.out _ _ ?_;refine KF.out _ _ ⟨v1.heap.size, g1, c1, H1, v7.heap.size, a9, c9, ?_, CC9.out.done⟩;try simp only [qq]
  ·go_simp;obtain ⟨v10, hv10⟩ : ∃ u, u = v0.alloc (.cells #[] 137) := ⟨_, rfl⟩
   have CC10 := hid (show C1 V d _ _ _ v10 by rw [hv10]; exact C0.out.nil);have SS := q9.ext (show Below v0.heap.size v0 v10 by rw [hv10]; exact ae (Below.refl _ _) _);rw [← hv10];clear hv10 C0;refine hK.out _ _ SS ?_;clear hK K q9;intro q9;try simp only [qq]
   clear SS;refine bu (rs := [2, 8]) (by kernel_rfl) (by simp) ?_;refine aK.cons (ax rfl) (fun K hK => ?_) (aK.cons (ax rfl) (fun K hK => ?_) aK.nil)
   ·go_simp;refine (nz aF d.fl d.fl.length cF v10 rfl FL.out MS.out (jQ (u := 0) (M0.out.ext CC10.out.b).fr M0.out.fm (M0.out.ext CC10.out.b).fi) (MA.out.ext CC10.out.b)).mono ?_;rintro e v11 ⟨g11, c11, H11, rfl, hz, hm, hi, hb⟩;have CC11 := hid (CC10.out.FH hb hz rfl hm hi);have SS := q9.ext hb;clear hz hm hi hb CC10;go_wp2_with fail;refine hK.out _ _ SS ?_;clear hK K q9;intro q9;try simp only [qq]
    clear SS;refine bu (rs := [6, 8]) (by kernel_rfl) (by simp) ?_;refine aK.cons (ax rfl) (fun K hK => ?_) (aK.cons (ax rfl) (fun K hK => ?_) aK.nil)
    ·rw [if_pos (by rfl)];refine eH V.heap.size (some ⟨v0.heap.size, 0, none⟩) 0 0 [] aX d.fx.length cX (flat d.fx) rfl rfl (CC11.out.x _ _ _ rfl).own (RX.out.ext CC11.out.b) FO.out XN.out CC11.out.b.size ?_;rw [Nat.zero_add, List.nil_append];intro a12 c12 v12 q1 q2 q3;have CC12 := hid (CC11.out.app rfl q1 q2);have SS : x8 w.heap.size (bQ d ⟨some ⟨gR, 0, none⟩, cR, aF, cF, aX, cX⟩) v12 := ⟨K0.out.ext CC12.out.b⟩
     clear q1 q2 q3 CC11;refine hK.out _ _ SS ?_;clear hK K q9;intro q9;try simp only [qq]
     clear SS;refine bT (i := 7) (v := .agg #[.slice none 0 0, .slice (some ⟨g11, 0, none⟩) d.fl.length c11, .slice a12 d.fx.length c12]) (ax rfl) (by kernel_rfl) (by kernel_rfl) (by kernel_rfl) (by kernel_rfl) (fun c a w h => hP c a _ _ w h) (Or.inl ⟨by rfl, fun w9 _ => by go_simp; try with_reducible rfl⟩) q9 ?_;try simp only [qq]
     refine aT 8 fun K hK => ?_
     go_simp;obtain ⟨v13, hv13⟩ : ∃ u, u = v12.alloc (.cells zW 116) := ⟨_, rfl⟩
     have CC13 := hid (show C1 V d _ _ _ v13 by rw [hv13]; exact CC12.out.box);have SS := q9.ext (show Below v12.heap.size v12 v13 by rw [hv13]; exact ae (Below.refl _ _) _);rw [← hv13];clear hv13 CC12;refine hK.out _ _ SS ?_;clear hK K q9;intro q9;try simp only [qq]
     clear SS;refine aJ fun K hK => ?_
     rw [if_pos (by rfl)];refine wp_store_row 116 _ _ rfl (v12.heap.size) #[.slice none 0 0, .slice (some ⟨g11, 0, none⟩) d.fl.length c11, .slice a12 d.fx.length c12] rfl rfl 116 zW (CC13.out.o _ rfl).1 (by kernel_rfl) rfl (by simp [Value.oneCell']) ?_;refine hK.out _ _ ?_;refine KF.out _ _ ⟨v12.heap.size, g11, c11, H11, v0.heap.size, a12, c12, ?_, CC13.out.done⟩;try simp only [qq]
    go_simp;obtain ⟨v14, hv14⟩ : ∃ u, u = v11.alloc (.cells zW 116) := ⟨_, rfl⟩
    have CC14 := hid (show C1 V d _ _ _ v14 by rw [hv14]; exact CC11.out.box);have SS := q9.ext (show Below v11.heap.size v11 v14 by rw [hv14]; exact ae (Below.refl _ _) _);rw [← hv14];clear hv14 CC11;refine hK.out _ _ SS ?_;clear hK K q9;intro q9;try simp only [qq]
    clear SS;refine aT 6 fun K hK => ?_
    rw [if_pos (by rfl)];refine eH V.heap.size (some ⟨v0.heap.size, 0, none⟩) 0 0 [] aX d.fx.length cX (flat d.fx) rfl rfl (CC14.out.x _ _ _ rfl).own (RX.out.ext CC14.out.b) FO.out XN.out CC14.out.b.size ?_;rw [Nat.zero_add, List.nil_append];intro a15 c15 v15 q1 q2 q3;have CC15 := hid (CC14.out.app rfl q1 q2);have SS : x8 w.heap.size (bQ d ⟨some ⟨gR, 0, none⟩, cR, aF, cF, aX, cX⟩) v15 := ⟨K0.out.ext CC15.out.b⟩
    clear q1 q2 q3 CC14;refine hK.out _ _ SS ?_;clear hK K q9;intro q9;try simp only [qq]
    clear SS;refine bT (i := 7) (v := .agg #[.slice none 0 0, .slice (some ⟨g11, 0, none⟩) d.fl.length c11, .slice a15 d.fx.length c15]) (ax rfl) (by kernel_rfl) (by kernel_rfl) (by kernel_rfl) (by kernel_rfl) (fun c a w h => hP c a _ _ w h) (Or.inl ⟨by rfl, fun w9 _ => by go_simp; try with_reducible rfl⟩) q9 ?_;try simp only [qq]
    refine aJ fun K hK => ?_
    rw [if_pos (by rfl)];refine wp_store_row 116 _ _ rfl (v11.heap.size) #[.slice none 0 0, .slice (some ⟨g11, 0, none⟩) d.fl.length c11, .slice a15 d.fx.length c15] rfl rfl 116 zW (CC15.out.o _ rfl).1 (by kernel_rfl) rfl (by simp [Value.oneCell']) ?_;refine hK.out _ _ ?_;refine KF.out _ _ ⟨v11.heap.size, g11, c11, H11, v0.heap.size, a15, c15, ?_, CC15.out.done⟩;try simp only [qq]
   go_simp;obtain ⟨v16, hv16⟩ : ∃ u, u = v10.alloc (.cells zW 116) := ⟨_, rfl⟩
   have CC16 := hid (show C1 V d _ _ _ v16 by rw [hv16]; exact CC10.out.box);have SS := q9.ext (show Below v10.heap.size v10 v16 by rw [hv16]; exact ae (Below.refl _ _) _);rw [← hv16];clear hv16 CC10;refine hK.out _ _ SS ?_;clear hK K q9;intro q9;try simp only [qq]
   clear SS;refine aT 2 fun K hK => ?_
   go_simp;refine (nz aF d.fl d.fl.length cF v16 rfl FL.out MS.out (jQ (u := 0) (M0.out.ext CC16.out.b).fr M0.out.fm (M0.out.ext CC16.out.b).fi) (MA.out.ext CC16.out.b)).mono ?_;rintro e v17 ⟨g17, c17, H17, rfl, hz, hm, hi, hb⟩;have CC17 := hid (CC16.out.FH hb hz rfl hm hi);have SS := q9.ext hb;clear hz hm hi hb CC16;go_wp2_with fail;refine hK.out _ _ SS ?_;clear hK K q9;intro q9;try simp only [qq]
   clear SS;refine aT 6 fun K hK => ?_
   rw [if_pos (by rfl)];refine eH V.heap.size (some ⟨v0.heap.size, 0, none⟩) 0 0 [] aX d.fx.length cX (flat d.fx) rfl rfl (CC17.out.x _ _ _ rfl).own (RX.out.ext CC17.out.b) FO.out XN.out CC17.out.b.size ?_;rw [Nat.zero_add, List.nil_append];intro a18 c18 v18 q1 q2 q3;have CC18 := hid (CC17.out.app rfl q1 q2);have SS : x8 w.heap.size (bQ d ⟨some ⟨gR, 0, none⟩, cR, aF, cF, aX, cX⟩) v18 := ⟨K0.out.ext CC18.out.b⟩
   clear q1 q2 q3 CC17;refine hK.out _ _ SS ?_;clear hK K q9;intro q9;try simp only [qq]
   clear SS;refine bT (i := 7) (v := .agg #[.slice none 0 0, .slice (some ⟨g17, 0, none⟩) d.fl.length c17, .slice a18 d.fx.length c18]) (ax rfl) (by kernel_rfl) (by kernel_rfl) (by kernel_rfl) (by kernel_rfl) (fun c a w h => hP c a _ _ w h) (Or.inl ⟨by rfl, fun w9 _ => by go_simp; try with_reducible rfl⟩) q9 ?_;try simp only [qq]
   refine aJ fun K hK => ?_
   rw [if_pos (by rfl)];refine wp_store_row 116 _ _ rfl (v10.heap.size) #[.slice none 0 0, .slice (some ⟨g17, 0, none⟩) d.fl.length c17, .slice a18 d.fx.length c18] rfl rfl 116 zW (CC18.out.o _ rfl).1 (by kernel_rfl) rfl (by simp [Value.oneCell']) ?_;refine hK.out _ _ ?_;refine KF.out _ _ ⟨v10.heap.size, g17, c17, H17, v0.heap.size, a18, c18, ?_, CC18.out.done⟩;try simp only [qq]
  go_simp;obtain ⟨v19, hv19⟩ : ∃ u, u = v0.alloc (.cells zW 116) := ⟨_, rfl⟩
  have CC19 := hid (show C1 V d _ _ _ v19 by rw [hv19]; exact C0.out.box);have SS := q9.ext (show Below v0.heap.size v0 v19 by rw [hv19]; exact ae (Below.refl _ _) _);rw [← hv19];clear hv19 C0;refine hK.out _ _ SS ?_;clear hK K q9;intro q9;try simp only [qq]
  clear SS;refine bu (rs := [2, 3]) (by kernel_rfl) (by simp) ?_;refine aK.cons (ax rfl) (fun K hK => ?_) (aK.cons (ax rfl) (fun K hK => ?_) aK.nil)
  ·go_simp;refine (nz aF d.fl d.fl.length cF v19 rfl FL.out MS.out (jQ (u := 0) (M0.out.ext CC19.out.b).fr M0.out.fm (M0.out.ext CC19.out.b).fi) (MA.out.ext CC19.out.b)).mono ?_;rintro e v20 ⟨g20, c20, H20, rfl, hz, hm, hi, hb⟩;have CC20 := hid (CC19.out.FH hb hz rfl hm hi);have SS := q9.ext hb;clear hz hm hi hb CC19;go_wp2_with fail;refine hK.out _ _ SS ?_;clear hK K q9;intro q9;try simp only [qq]
   clear SS;refine aT 3 fun K hK => ?_
   go_simp;obtain ⟨v21, hv21⟩ : ∃ u, u = v20.alloc (.cells #[] 137) := ⟨_, rfl⟩
   have CC21 := hid (show C1 V d _ _ _ v21 by rw [hv21]; exact CC20.out.nil);have SS := q9.ext (show Below v20.heap.size v20 v21 by rw [hv21]; exact ae (Below.refl _ _) _);rw [← hv21];clear hv21 CC20;refine hK.out _ _ SS ?_;clear hK K q9;intro q9;try simp only [qq]
   clear SS;refine aT 6 fun K hK => ?_
   rw [if_pos (by rfl)];refine eH V.heap.size (some ⟨v20.heap.size, 0, none⟩) 0 0 [] aX d.fx.length cX (flat d.fx) rfl rfl (CC21.out.x _ _ _ rfl).own (RX.out.ext CC21.out.b) FO.out XN.out CC21.out.b.size ?_;rw [Nat.zero_add, List.nil_append];intro a22 c22 v22 q1 q2 q3;have CC22 := hid (CC21.out.app rfl q1 q2);have SS : x8 w.heap.size (bQ d ⟨some ⟨gR, 0, none⟩, cR, aF, cF, aX, cX⟩) v22 := ⟨K0.out.ext CC22.out.b⟩
   clear q1 q2 q3 CC21;refine hK.out _ _ SS ?_;clear hK K q9;intro q9;try simp only [qq]
   clear SS;refine bT (i := 7) (v := .agg #[.slice none 0 0, .slice (some ⟨g20, 0, none⟩) d.fl.length c20, .slice a22 d.fx.length c22]) (ax rfl) (by kernel_rfl) (by kernel_rfl) (by kernel_rfl) (by kernel_rfl) (fun c a w h => hP c a _ _ w h) (Or.inl ⟨by rfl, fun w9 _ => by go_simp; try with_reducible rfl⟩) q9 ?_;try simp only [qq]
   refine aJ fun K hK => ?_
   rw [if_pos (by rfl)];refine wp_store_row 116 _ _ rfl (v0.heap.size) #[.slice none 0 0, .slice (some ⟨g20, 0, none⟩) d.fl.length c20, .slice a22 d.fx.length c22] rfl rfl 116 zW (CC22.out.o _ rfl).1 (by kernel_rfl) rfl (by simp [Value.oneCell']) ?_;refine hK.out _ _ ?_;refine KF.out _ _ ⟨v0.heap.size, g20, c20, H20, v20.heap.size, a22, c22, ?_, CC22.out.done⟩;try simp only [qq]
  go_simp;obtain ⟨v23, hv23⟩ : ∃ u, u = v19.alloc (.cells #[] 137) := ⟨_, rfl⟩
  have CC23 := hid (show C1 V d _ _ _ v23 by rw [hv23]; exact CC19.out.nil);have SS := q9.ext (show Below v19.heap.size v19 v23 by rw [hv23]; exact ae (Below.refl _ _) _);rw [← hv23];clear hv23 CC19;refine hK.out _ _ SS ?_;clear hK K q9;intro q9;try simp only [qq]
  clear SS;refine aT 2 fun K hK => ?_
  go_simp;refine (nz aF d.fl d.fl.length cF v23 rfl FL.out MS.out (jQ (u := 0) (M0.out.ext CC23.out.b).fr M0.out.fm (M0.out.ext CC23.out.b).fi) (MA.out.ext CC23.out.b)).mono ?_;rintro e v24 ⟨g24, c24, H24, rfl, hz, hm, hi, hb⟩;have CC24 := hid (CC23.out.FH hb hz rfl hm hi);have SS := q9.ext hb;clear hz hm hi hb CC23;go_wp2_with fail;refine hK.out _ _ SS ?_;clear hK K q9;intro q9;try simp only [qq]
  clear SS;refine aT 6 fun K hK => ?_
  rw [if_pos (by rfl)];refine eH V.heap.size (some ⟨v19.heap.size, 0, none⟩) 0 0 [] aX d.fx.length cX (flat d.fx) rfl rfl (CC24.out.x _ _ _ rfl).own (RX.out.ext CC24.out.b) FO.out XN.out CC24.out.b.size ?_;rw [Nat.zero_add, List.nil_append];intro a25 c25 v25 q1 q2 q3;have CC25 := hid (CC24.out.app rfl q1 q2);have SS : x8 w.heap.size (bQ d ⟨some ⟨gR, 0, none⟩, cR, aF, cF, aX, cX⟩) v25 := ⟨K0.out.ext CC25.out.b⟩
  clear q1 q2 q3 CC24;refine hK.out _ _ SS ?_;clear hK K q9;intro q9;try simp only [qq]
  clear SS;refine bT (i := 7) (v := .agg #[.slice none 0 0, .slice (some ⟨g24, 0, none⟩) d.fl.length c24, .slice a25 d.fx.length c25]) (ax rfl) (by kernel_rfl) (by kernel_rfl) (by kernel_rfl) (by kernel_rfl) (fun c a w h => hP c a _ _ w h) (Or.inl ⟨by rfl, fun w9 _ => by go_simp; try with_reducible rfl⟩) q9 ?_;try simp only [qq]
  refine aJ fun K hK => ?_
  rw [if_pos (by rfl)];refine wp_store_row 116 _ _ rfl (v0.heap.size) #[.slice none 0 0, .slice (some ⟨g24, 0, none⟩) d.fl.length c24, .slice a25 d.fx.length c25] rfl rfl 116 zW (CC25.out.o _ rfl).1 (by kernel_rfl) rfl (by simp [Value.oneCell']) ?_;refine hK.out _ _ ?_;refine KF.out _ _ ⟨v0.heap.size, g24, c24, H24, v19.heap.size, a25, c25, ?_, CC25.out.done⟩;try simp only [qq]
 rintro a3 W3 ⟨g3, gF, cF1, H1, g8, aX1, cX1, rfl, hs3⟩;try simp only [qq]
 have S3 := hid hs3;clear hs3;have G3 := hid S3.out.g;go_wp2_with fail;go_loopw [4] (fun s4 wr => ∃ (j : Nat) (p1 : kV) (J1 : List jF), j ≤ d.recs.length ∧ s4 = .int .i64 j ∧ Fh V d j g3 p1 J1 H1 wr) (fun s4 _ => d.recs.length - (intOf s4).toNat);case atStart => exact ⟨0, _, _, Nat.zero_le _, rfl, S3.out⟩
 obtain ⟨j, p1, J1, hj, rfl, hss⟩ := hrel;obtain ⟨wo, hwo⟩ : ∃ v : World, v = wr := ⟨_, rfl⟩
 subst hwo;have S1 := hid hss;clear hss S3;have K1 := hid (K0.out.ext S1.out.b);have kW := K1.out.cell;obtain ⟨aR1, cR1, aF1, cF1, aX1, cX1⟩ := p1;by_cases hjn : j < d.recs.length
 ·obtain ⟨r, hr⟩ : ∃ r, d.recs[j]? = some r := ⟨_, List.getElem?_eq_getElem hjn⟩
  obtain ⟨qi, hqi⟩ : ∃ q, I[j]? = some q := ⟨_, List.getElem?_eq_getElem (by rw [M0.out.li]; exact hjn)⟩
  have HR := hid hr;have HQI := hid hqi;have VRr := hid (WKd.out.r j r hr).1;clear hr hqi;have RG := hid ((M0.out.ext S1.out.b).range rfl HR.out HQI.out);have e1 : (0 : Int) ≤ (j : Int) := by omega
  have e2 : (j : Int) < (d.recs.length : Int) := by omega
  have u0 : decide ((j : Int) < (d.recs.length : Int)) = true := decide_eq_true e2;have n5 := WKd.out.n5;have e9 : IntKind.i64.wrap ((j : Int) + 1) = (j : Int) + 1 := by go_arith
  clear n5;go_wp2_with fail;clear kW;have hK0 : Lc w.heap.size g3 gR (j * 18) (bQ d ⟨some ⟨gR, 0, none⟩, cR, aF, cF, aX, cX⟩) #[.slice aR1 j cR1, .slice aF1 d.fl.length cF1, .slice aX1 d.fx.length cX1] (au r qi.p) wo := ⟨K1.out, S1.out.o, RG.out⟩
  refine aI (S := Lc w.heap.size g3 gR (j * 18) (bQ d ⟨some ⟨gR, 0, none⟩, cR, aF, cF, aX, cX⟩) #[.slice aR1 j cR1, .slice aF1 d.fl.length cF1, .slice aX1 d.fx.length cX1] (au r qi.p)) 11 (by kernel_rfl) hK0.drew (fun q9 => ?_);simp only [qz, Nat.reduceAdd];obtain ⟨w4, hw4⟩ : ∃ u, u = wo.drew := ⟨_, rfl⟩
  have E4 := hid (show Below wo.heap.size wo w4 by rw [hw4]; exact (Below.refl _ _).drew);have S4 := hid (S1.out.ext E4.out);rw [← hw4] at q9 ⊢;clear hw4 hK0;refine ak.go [0, 1, 2, 3, 4, 5] ?_;iterate 6 (apply ak.take (ax rfl) (by kernel_rfl) (by rfl) (fun _ _ _ h => h) q9; (· intro w9 hSw; have hq := hSw.k.cell; have hq2 := hSw.o.cell; clear hSw; go_simp; try with_reducible rfl); try simp only [qq])
  refine ak.fin ?_;refine bT (i := 6) (v := .agg (au r qi.p)) (ax rfl) (by kernel_rfl) (by kernel_rfl) (by kernel_rfl) (by kernel_rfl) (fun _ _ _ h => h) (yieldsIf_load_mid (by rfl) 31 _ rfl gR (j * 18) rfl (au r qi.p).toList _ (fun w9 hS => hS.r) Try.underlying31 rfl (by kernel_rfl)) q9 ?_;try simp only [qq]
  refine aT 7 fun K hK => ?_
  go_simp;refine (jm B r qi.p qi.X qi.c w4 (lu VRr.out) ((M0.out.ext S4.out.b).rc j r qi HR.out HQI.out).1).mono ?_;rintro e w5 ⟨p5, X5, c5, rfl, has5, hb5⟩;have S5 := hid (S4.out.ext hb5);have HAS5 := hid has5;have HB5 := hid hb5;clear has5 hb5;go_wp2_with fail;refine hK.out _ _ ⟨K0.out.ext S5.out.b, S5.out.o, (M0.out.ext S5.out.b).range rfl HR.out HQI.out⟩ ?_;clear hK K q9;intro q9;try simp only [qq]
  refine aT 8 fun K hK => ?_
  go_simp;obtain ⟨w6, hw6⟩ : ∃ u, u = w5.alloc (.cells (au r p5) 31) := ⟨_, rfl⟩
  have X6 := hid (show Below w5.heap.size w5 w6 by rw [hw6]; exact ae (Below.refl _ _) _);have S6 := hid (S5.out.ext X6.out)
  have N6 := hid (show aN w6 (some ⟨w5.heap.size, 0, none⟩) 1 1 18 (au r p5).toList by
   rw [hw6]
   exact ⟨rfl, fun e => by simp at e, fun y hy => by
    simp only [Option.some.injEq] at hy;subst hy
    exact ⟨rfl, dG (cs := (au r p5).toList) (aC.new _ _ _)⟩⟩)
  rw [← hw6];clear hw6;refine hK.out _ _ ⟨K0.out.ext S6.out.b, S6.out.o, (M0.out.ext S6.out.b).range rfl HR.out HQI.out⟩ ?_;clear hK K q9;intro q9;try simp only [qq]
  refine aT 9 fun K hK => ?_
  rw [if_pos (by rfl)];refine Jt V.heap.size aR1 j cR1 (fG (d.recs.take j) J1) (some ⟨w5.heap.size, 0, none⟩) 1 1 (au r p5).toList rfl rfl S6.out.row N6.out (fun u hu => List.all_eq_true.1 (by have := pI r p5; rw [← Array.all_toList] at this; exact this) u hu) (by have := WKd.out.n5; omega) S6.out.b.size ?_;intro a7 c7 w7 q1 q2 q3;obtain ⟨J2, G⟩ := S4.out.step HR.out HB5.out HAS5.out X6.out q1 q2 q3;have G := hid G;have m7 := S6.out.mid q2;have K7 := hid (show Lc w.heap.size g3 gR (j * 18) (bQ d ⟨some ⟨gR, 0, none⟩, cR, aF, cF, aX, cX⟩) #[.slice aR1 j cR1, .slice aF1 d.fl.length cF1, .slice aX1 d.fx.length cX1] (au r qi.p) w7 from ⟨K0.out.ext m7.2, m7.1, (M0.out.ext m7.2).range rfl HR.out HQI.out⟩);clear q1 q2 q3 m7;refine hK.out _ _ K7.out ?_;clear hK K q9;intro q9;try simp only [qq]
  refine ak.go [10] ?_;iterate 1 (apply ak.take (ax rfl) (by kernel_rfl) (by rfl) (fun _ _ _ h => h) q9; (· intro w9 hSw; have hq := hSw.k.cell; have hq2 := hSw.o.cell; clear hSw; go_simp; try with_reducible rfl); try simp only [qq])
  refine ak.fin ?_;refine aJ fun K hK => ?_
  have cB := q9.o.cell;have fB := q9.o.free;go_simp;refine hK.out _ _ ?_;clear hK K q9 cB fB;obtain ⟨Y, hY⟩ : ∃ u, u = w7.setCell ⟨g3, 0, none⟩ (.slice a7 (j + 1) c7) := ⟨_, rfl⟩
  rw [← hY] at G ⊢;clear hY;go_wp2_with fail;go_roundw;case rel => exact ⟨j + 1, _, J2, by omega, by go_num, G.out⟩
  case measure => simp [intOf]; omega
 have hjj : j = d.recs.length := by omega
 subst hjj;have e2 : ¬ ((d.recs.length : Nat) : Int) < ((d.recs.length : Nat) : Int) := by omega
 have M1 := hid (show WM V.heap.size wo d ⟨aR1, cR1, aF1, cF1, aX1, cX1⟩ J1 H1 by
  have h9 := S1.out.m;rw [List.take_length] at h9
  exact h9.wm OK.out)
 have ko : aC wo g3 (bQ d ⟨aR1, cR1, aF1, cF1, aX1, cX1⟩) 116 := S1.out.o;have kz := Z0.out.ext S1.out.b;go_wp2_with (first | ((with_reducible refine aP g3 (bQ d ⟨aR1, cR1, aF1, cF1, aX1, cX1⟩) rfl ?_ ?_ ?_); rfl; exact ko) | ((with_reducible refine aQ (w.heap.size + 1) zW (bQ d ⟨aR1, cR1, aF1, cF1, aX1, cX1⟩) rfl rfl ?_ ?_ ?_ ?_ ?_); rfl; rfl; exact kz; simp [Value.oneCell']));have hz := setRow_heap _ (w.heap.size + 1) _ (bQ d ⟨aR1, cR1, aF1, cF1, aX1, cX1⟩) _ _ kz;refine az (ty := 116) Try.results91 (w.heap.size + 1) (bQ d ⟨aR1, cR1, aF1, cF1, aX1, cX1⟩) _ ?_ ?_ hz Try.underlying116 rfl (by kernel_rfl) ?_
 ·rfl
 ·rfl
 have vz : w.heap.size + 1 < V.heap.size := Z0.out.lt;exact ⟨_, _, _, rfl, (M1.out.same fun b hB hlt => setRow_other _ _ _ _ (by omega)).low (by omega), ay ((BV.out.trans (S1.out.b.mono (by omega)))) (by omega) _⟩
end Go.Proofs.Ytjdceoimignnpaa
