import Derived.Test.YtffklmlljekceaaGreatQ51
import Derived.Test.YtffklmlljekceaaGreatQ52
namespace Go.Proofs.YtffklmlljekceaaGreat.fnExactRecTake
open Go Go.ChangeShapes Go.WideShapes Go.ChangeAt Go.RowKit
set_option linter.unusedSimpArgs false
set_option linter.unusedVariables false
set_option maxHeartbeats 16000000
set_option maxRecDepth 100000
theorem walk (r : Rc) (p : RcP) (m : MsgH) (al : Option Addr) (l : List Sl) (cap : Nat) (w : World) (h : RcAt w r p) (hx : m.x.size ≤ maxLen) (hc : l.length ≤ maxLen) (hsl : SlotsAt w al l) :
  Calls Tryz.prog 3 #[.agg (rcV r p), .agg (msgV m (.slice al l.length cap))] w fun e w' => e = .returned (.bool true) ∧ Below w.heap.size w w' := by
 have HX := hid hx
 have HC := hid hc
 have hB := hid (show Below w.heap.size w ((w.alloc (.cells (rcV r p) 30)).alloc (.cells (msgV m (.slice al l.length cap)) 32)) from ext_alloc (ext_alloc (Below.refl _ _) _) _)
 have hA := hid (h.ext hB.out)
 have hM := hid (hsl.ext hB.out)
 have b0 : Blk ((w.alloc (.cells (rcV r p) 30)).alloc (.cells (msgV m (.slice al l.length cap)) 32)) w.heap.size (rcV r p) 30 := (Blk.new _ _ _).alloc _
 have m0 : Blk ((w.alloc (.cells (rcV r p) 30)).alloc (.cells (msgV m (.slice al l.length cap)) 32)) (w.heap.size + 1) (msgV m (.slice al l.length cap)) 32 := Blk.new' _ _ (by simp)
 clear h hx hc hsl
 obtain ⟨RR, hRR⟩ : ∃ x, x = recTake r m l := ⟨_, rfl⟩
 have HR := hid hRR
 clear hRR
 go_enter Tryz.func3, Tryz.ntmps3
 go_wp2_with ((with_reducible refine wpList_load_lrec w.heap.size (rcV r p) rfl ?_ ?_ ?_); (· rfl); (· exact b0))
 refine (szRec r p _ _ (by omega) (by omega) hA.out).mono ?_
 rintro e w1 ⟨q, rfl, r1, r2, r3, hb1⟩
 have a1 := hid (hA.out.ext hb1)
 have s1 := hid (hM.out.ext hb1)
 have k1 := b0.ext hb1
 have m1 := m0.ext hb1
 have B1 := hid (ext_trans hB.out hb1)
 clear hA hB hM b0 m0 hb1
 by_cases hr : q < 0
 ·go_wp2_with fail
  go_ret
  exact ⟨rfl, B1.out⟩
 have HS : Hid (RcSmall r) := r3 (by omega)
 have HSR := hid (show RcSmall RR by rw [HR.out]; exact take_small HS.out)
 clear r3
 go_wp2_with ((with_reducible refine wpList_load_lmsg (w.heap.size + 1) (msgV m (.slice al l.length cap)) rfl ?_ ?_ ?_); (· rfl); (· exact m1))
 refine (szMsg m al l l.length cap _ _ rfl (by omega) (by omega) HC.out HX.out s1.out).mono ?_
 rintro e w2 ⟨q2, rfl, t1, t2, t3, hb2⟩
 have a2 := hid (a1.out.ext hb2)
 have s2 := hid (s1.out.ext hb2)
 have B2 := hid (ext_trans B1.out hb2)
 have L2 := hid (show LawT w2 w.heap.size (w.heap.size + 1) (rcV r p) (msgV m (.slice al l.length cap)) w2 from ⟨k1.ext hb2, m1.ext hb2, Below.refl _ _⟩)
 clear a1 s1 k1 m1 B1 hb2
 by_cases hr2 : q2 < 0
 ·go_wp2_with fail
  go_ret
  exact ⟨rfl, B2.out⟩
 have HL := hid (t3 (by omega))
 clear t3
 go_wp2_with fail
 refine wp_gen (FinT w2 r p m al l cap RR 24 25 26 27 28 6) (fun _ _ dst _ _ h => by cases dst <;> exact h) (fun QQ hP KF => ?_) ?_
 ·refine wp_region_last (S := LawT w2 w.heap.size (w.heap.size + 1) (rcV r p) (msgV m (.slice al l.length cap))) 6 (by kernel_rfl) L2.out.drew (fun hHeld => ?_)
  simp only [qz, Nat.reduceAdd]
  have E0 := hid (show Below w2.heap.size w2 w2.drew from (Below.refl _ _).drew)
  refine wpLast_take (i := 0) (v := .agg (rcV r p)) (at_lit rfl) (by kernel_rfl) (by kernel_rfl) (by kernel_rfl) (by kernel_rfl) (fun c a w h => hP c a _ _ w h) (yields_lr (fun w9 hS => hS.blk) rfl (by rfl) _ rfl rfl) hHeld ?_
  try simp only [qq]
  refine wpLast_take (i := 2) (v := .agg (msgV m (.slice al l.length cap))) (at_lit rfl) (by kernel_rfl) (by kernel_rfl) (by kernel_rfl) (by kernel_rfl) (fun c a w h => hP c a _ _ w h) (yields_lm (fun w9 hS => hS.bm) rfl (by rfl) _ rfl rfl) hHeld ?_
  try simp only [qq]
  refine wpLast_ready (rs := [1, 5]) (by kernel_rfl) (by simp) ?_
  refine AllLast.cons (at_lit rfl) (fun K hK => ?_) (AllLast.cons (at_lit rfl) (fun K hK => ?_) AllLast.nil)
  ·go_simp
   refine (toRecO r p _ HS.out (a2.out.ext E0.out)).mono ?_
   rintro e v1 ⟨pp1, rfl, oo, _, hb, ow, ff⟩
   obtain ⟨XX1, cc1, has⟩ := ow.has oo ff
   have HA1 := hid has
   have E1 := hid (ext_trans E0.out hb)
   have SS := hHeld.ext hb
   clear oo ow ff has hb
   go_wp2_with fail
   refine hK.out _ _ SS (fun hNew => ?_)
   clear hK K hHeld
   have hHeld := hNew
   clear hNew
   try simp only [qq]
   clear SS
   refine wpLast_ready (rs := [3, 5]) (by kernel_rfl) (by simp) ?_
   refine AllLast.cons (at_lit rfl) (fun K hK => ?_) (AllLast.cons (at_lit rfl) (fun K hK => ?_) AllLast.nil)
   ·go_simp
    refine (toMsg m al l l.length cap _ rfl HL.out (s2.out.ext E1.out)).mono ?_
    rintro e v2 ⟨gm2, rfl, hgm, ow, hb⟩
    have SO2 := hid (ow.at s2.out.good)
    have SL2 := hid ow.lt
    have HA2 := hid (HA1.out.ext hb)
    have E2 := hid (ext_trans E1.out hb)
    have SS := hHeld.ext hb
    clear ow hgm hb
    go_wp2_with fail
    refine hK.out _ _ SS (fun hNew => ?_)
    clear hK K hHeld
    have hHeld := hNew
    clear hNew
    try simp only [qq]
    clear SS
    refine wpLast_ready (rs := [4, 5]) (by kernel_rfl) (by simp) ?_
    refine AllLast.cons (at_lit rfl) (fun K hK => ?_) (AllLast.cons (at_lit rfl) (fun K hK => ?_) AllLast.nil)
    ·go_simp
     refine (specRecTake _ r pp1 XX1 cc1 m (some ⟨gm2, 0, none⟩) l l.length _ HS.out HL.out (fun h => by cases h) (fun x hx => by cases hx; rfl) HX.out SO2.out HA2.out).mono ?_
     rintro e v3 ⟨pp3, XX3, cc3, rfl, has, hb⟩
     rw [← HR.out] at has ⊢
     have H33 := hid has
     have E3 := hid (ext_trans E2.out hb)
     have SZ3 := hid (show w2.heap.size ≤ v2.heap.size from E2.out.size)
     have SS := hHeld.ext hb
     clear has hb
     go_wp2_with fail
     refine hK.out _ _ SS (fun hNew => ?_)
     clear hK K hHeld
     have hHeld := hNew
     clear hNew
     try simp only [qq]
     clear SS
     refine rdL 5 (by kernel_rfl) (at_lit rfl) (fun K hK => ?_)
     go_simp
     obtain ⟨v4, hv4⟩ : ∃ x, x = (v3).alloc (.cells zRc 41) := ⟨_, rfl⟩
     have EX4 := hid (show Below (v3).heap.size (v3) v4 by rw [hv4]; exact ext_alloc (Below.refl _ _) _)
     have KB4 := hid (show Blk v4 (v3).heap.size zRc 41 by rw [hv4]; exact Blk.new _ _ _)
     have E4 := hid (ext_trans E3.out EX4.out)
     have SG4 := hid (show w2.heap.size ≤ (v3).heap.size from E3.out.size)
     rw [← hv4]
     refine hK.out _ _ (hHeld.ext EX4.out) (fun hNew => ?_)
     clear hK K hHeld
     have hHeld := hNew
     clear hNew
     try simp only [qq]
     clear hv4
     refine wpLast_end (by kernel_rfl) (at_lit rfl) (by kernel_rfl) (fun K hK => ?_)
     rw [if_pos (by rfl)]
     refine wp_store_row 41 _ _ rfl (v3).heap.size (rcV RR pp3) rfl rfl 41 zRc KB4.out (by kernel_rfl) rfl (by simp [Value.oneCell']) ?_
     refine hK.out _ _ ?_
     refine KF.out _ _ ⟨(v3).heap.size, pp1, gm2, pp3, XX3, cc3, ?_, SG4.out, setRow_heap _ _ _ _ _ _ KB4.out, (H33.out.same (fun b hb hl _ => (setRow_other _ _ b _ (by omega)).trans (EX4.out.block b hl))).lower SZ3.out, below_setRow' E4.out SG4.out _⟩
     rfl
    go_simp
    obtain ⟨v5, hv5⟩ : ∃ x, x = (v2).alloc (.cells zRc 41) := ⟨_, rfl⟩
    have EX5 := hid (show Below (v2).heap.size (v2) v5 by rw [hv5]; exact ext_alloc (Below.refl _ _) _)
    have KB5 := hid (show Blk v5 (v2).heap.size zRc 41 by rw [hv5]; exact Blk.new _ _ _)
    have E5 := hid (ext_trans E2.out EX5.out)
    have SG5 := hid (show w2.heap.size ≤ (v2).heap.size from E2.out.size)
    have HA5 := hid (HA2.out.ext EX5.out)
    have SO5 := hid (SO2.out.ext EX5.out)
    have SL5 := hid (Nat.lt_of_lt_of_le SL2.out EX5.out.size)
    rw [← hv5]
    refine hK.out _ _ (hHeld.ext EX5.out) (fun hNew => ?_)
    clear hK K hHeld
    have hHeld := hNew
    clear hNew
    try simp only [qq]
    clear hv5
    refine rdL 4 (by kernel_rfl) (at_lit rfl) (fun K hK => ?_)
    go_simp
    refine (specRecTake _ r pp1 XX1 cc1 m (some ⟨gm2, 0, none⟩) l l.length _ HS.out HL.out (fun h => by cases h) (fun x hx => by cases hx; rfl) HX.out SO5.out HA5.out).mono ?_
    rintro e v6 ⟨pp6, XX6, cc6, rfl, has, hb⟩
    rw [← HR.out] at has ⊢
    have H36 := hid has
    have E6 := hid (ext_trans E5.out hb)
    have SZ6 := hid (show w2.heap.size ≤ v5.heap.size from E5.out.size)
    have SS := hHeld.ext hb
    have GB6 := hid KB5.out.lt
    have KB6 := hid (KB5.out.ext hb)
    clear has hb
    go_wp2_with fail
    refine hK.out _ _ SS (fun hNew => ?_)
    clear hK K hHeld
    have hHeld := hNew
    clear hNew
    try simp only [qq]
    clear SS
    refine wpLast_end (by kernel_rfl) (at_lit rfl) (by kernel_rfl) (fun K hK => ?_)
    rw [if_pos (by rfl)]
    refine wp_store_row 41 _ _ rfl (v2).heap.size (rcV RR pp6) rfl rfl 41 zRc KB6.out (by kernel_rfl) rfl (by simp [Value.oneCell']) ?_
    refine hK.out _ _ ?_
    refine KF.out _ _ ⟨(v2).heap.size, pp1, gm2, pp6, XX6, cc6, ?_, SG5.out, setRow_heap _ _ _ _ _ _ KB6.out, (H36.out.same (fun b hb hl _ => setRow_other _ _ b _ (by have := GB6.out; omega))).lower SZ6.out, below_setRow' E6.out SG5.out _⟩
    rfl
   go_simp
   obtain ⟨v7, hv7⟩ : ∃ x, x = (v1).alloc (.cells zRc 41) := ⟨_, rfl⟩
   have EX7 := hid (show Below (v1).heap.size (v1) v7 by rw [hv7]; exact ext_alloc (Below.refl _ _) _)
   have KB7 := hid (show Blk v7 (v1).heap.size zRc 41 by rw [hv7]; exact Blk.new _ _ _)
   have E7 := hid (ext_trans E1.out EX7.out)
   have SG7 := hid (show w2.heap.size ≤ (v1).heap.size from E1.out.size)
   have HA7 := hid (HA1.out.ext EX7.out)
   rw [← hv7]
   refine hK.out _ _ (hHeld.ext EX7.out) (fun hNew => ?_)
   clear hK K hHeld
   have hHeld := hNew
   clear hNew
   try simp only [qq]
   clear hv7
   refine rdL 3 (by kernel_rfl) (at_lit rfl) (fun K hK => ?_)
   go_simp
   refine (toMsg m al l l.length cap _ rfl HL.out (s2.out.ext E7.out)).mono ?_
   rintro e v8 ⟨gm8, rfl, hgm, ow, hb⟩
   have SO8 := hid (ow.at s2.out.good)
   have SL8 := hid ow.lt
   have HA8 := hid (HA7.out.ext hb)
   have E8 := hid (ext_trans E7.out hb)
   have SS := hHeld.ext hb
   have KB8 := hid (KB7.out.ext hb)
   clear ow hgm hb
   go_wp2_with fail
   refine hK.out _ _ SS (fun hNew => ?_)
   clear hK K hHeld
   have hHeld := hNew
   clear hNew
   try simp only [qq]
   clear SS
   refine rdL 4 (by kernel_rfl) (at_lit rfl) (fun K hK => ?_)
   go_simp
   refine (specRecTake _ r pp1 XX1 cc1 m (some ⟨gm8, 0, none⟩) l l.length _ HS.out HL.out (fun h => by cases h) (fun x hx => by cases hx; rfl) HX.out SO8.out HA8.out).mono ?_
   rintro e v9 ⟨pp9, XX9, cc9, rfl, has, hb⟩
   rw [← HR.out] at has ⊢
   have H39 := hid has
   have E9 := hid (ext_trans E8.out hb)
   have SZ9 := hid (show w2.heap.size ≤ v8.heap.size from E8.out.size)
   have SS := hHeld.ext hb
   have GB9 := hid KB8.out.lt
   have KB9 := hid (KB8.out.ext hb)
   clear has hb
   go_wp2_with fail
   refine hK.out _ _ SS (fun hNew => ?_)
   clear hK K hHeld
   have hHeld := hNew
   clear hNew
   try simp only [qq]
   clear SS
   refine wpLast_end (by kernel_rfl) (at_lit rfl) (by kernel_rfl) (fun K hK => ?_)
   rw [if_pos (by rfl)]
   refine wp_store_row 41 _ _ rfl (v1).heap.size (rcV RR pp9) rfl rfl 41 zRc KB9.out (by kernel_rfl) rfl (by simp [Value.oneCell']) ?_
   refine hK.out _ _ ?_
   refine KF.out _ _ ⟨(v1).heap.size, pp1, gm8, pp9, XX9, cc9, ?_, SG7.out, setRow_heap _ _ _ _ _ _ KB9.out, (H39.out.same (fun b hb hl _ => setRow_other _ _ b _ (by have := GB9.out; omega))).lower SZ9.out, below_setRow' E9.out SG7.out _⟩
   rfl
  go_simp
  rw [show (w2.alloc (.cells zRc 41)).drew = w2.drew.alloc (.cells zRc 41) from rfl]
  obtain ⟨v10, hv10⟩ : ∃ x, x = (w2.drew).alloc (.cells zRc 41) := ⟨_, rfl⟩
  have EX10 := hid (show Below (w2.drew).heap.size (w2.drew) v10 by rw [hv10]; exact ext_alloc (Below.refl _ _) _)
  have KB10 := hid (show Blk v10 (w2.drew).heap.size zRc 41 by rw [hv10]; exact Blk.new _ _ _)
  have E10 := hid (ext_trans E0.out EX10.out)
  have SG10 := hid (show w2.heap.size ≤ (w2.drew).heap.size from E0.out.size)
  rw [← hv10]
  refine hK.out _ _ (hHeld.ext EX10.out) (fun hNew => ?_)
  clear hK K hHeld
  have hHeld := hNew
  clear hNew
  try simp only [qq]
  clear hv10
  refine rdL 1 (by kernel_rfl) (at_lit rfl) (fun K hK => ?_)
  go_simp
  refine (toRecO r p _ HS.out (a2.out.ext E10.out)).mono ?_
  rintro e v11 ⟨pp11, rfl, oo, _, hb, ow, ff⟩
  obtain ⟨XX11, cc11, has⟩ := ow.has oo ff
  have HA11 := hid has
  have E11 := hid (ext_trans E10.out hb)
  have SS := hHeld.ext hb
  have KB11 := hid (KB10.out.ext hb)
  clear oo ow ff has hb
  go_wp2_with fail
  refine hK.out _ _ SS (fun hNew => ?_)
  clear hK K hHeld
  have hHeld := hNew
  clear hNew
  try simp only [qq]
  clear SS
  refine rdL 3 (by kernel_rfl) (at_lit rfl) (fun K hK => ?_)
  go_simp
  refine (toMsg m al l l.length cap _ rfl HL.out (s2.out.ext E11.out)).mono ?_
  rintro e v12 ⟨gm12, rfl, hgm, ow, hb⟩
  have SO12 := hid (ow.at s2.out.good)
  have SL12 := hid ow.lt
  have HA12 := hid (HA11.out.ext hb)
  have E12 := hid (ext_trans E11.out hb)
  have SS := hHeld.ext hb
  have KB12 := hid (KB11.out.ext hb)
  clear ow hgm hb
  go_wp2_with fail
  refine hK.out _ _ SS (fun hNew => ?_)
  clear hK K hHeld
  have hHeld := hNew
  clear hNew
  try simp only [qq]
  clear SS
  refine rdL 4 (by kernel_rfl) (at_lit rfl) (fun K hK => ?_)
  go_simp
  refine (specRecTake _ r pp11 XX11 cc11 m (some ⟨gm12, 0, none⟩) l l.length _ HS.out HL.out (fun h => by cases h) (fun x hx => by cases hx; rfl) HX.out SO12.out HA12.out).mono ?_
  rintro e v13 ⟨pp13, XX13, cc13, rfl, has, hb⟩
  rw [← HR.out] at has ⊢
  have H313 := hid has
  have E13 := hid (ext_trans E12.out hb)
  have SZ13 := hid (show w2.heap.size ≤ v12.heap.size from E12.out.size)
  have SS := hHeld.ext hb
  have GB13 := hid KB12.out.lt
  have KB13 := hid (KB12.out.ext hb)
  clear has hb
  go_wp2_with fail
  refine hK.out _ _ SS (fun hNew => ?_)
  clear hK K hHeld
  have hHeld := hNew
  clear hNew
  try simp only [qq]
  clear SS
  refine wpLast_end (by kernel_rfl) (at_lit rfl) (by kernel_rfl) (fun K hK => ?_)
  rw [if_pos (by rfl)]
  refine wp_store_row 41 _ _ rfl (w2.drew).heap.size (rcV RR pp13) rfl rfl 41 zRc KB13.out (by kernel_rfl) rfl (by simp [Value.oneCell']) ?_
  refine hK.out _ _ ?_
  refine KF.out _ _ ⟨(w2.drew).heap.size, pp11, gm12, pp13, XX13, cc13, ?_, SG10.out, setRow_heap _ _ _ _ _ _ KB13.out, (H313.out.same (fun b hb hl _ => setRow_other _ _ b _ (by have := GB13.out; omega))).lower SZ13.out, below_setRow' E13.out SG10.out _⟩
  rfl
 rintro a3 W3 ⟨g3, p2, gm, p3, X3, col3, rfl, SG3, k6, has3, E3⟩
 try simp only [qq]
 have S3 := hid has3.at
 have K6 := hid k6
 have SG := hid SG3
 have a3 := hid (a2.out.ext E3)
 have s3 := hid (s2.out.ext E3)
 have KL := hid (L2.out.blk.ext E3)
 have KM := hid (L2.out.bm.ext E3)
 have k3 := KL.out
 have B3 := hid (ext_trans B2.out E3)
 clear has3 k6 SG3 E3 a2 s2 B2 L2
 go_wp2_with ((with_reducible refine wpList_load_lrec w.heap.size (rcV r p) rfl ?_ ?_ ?_); (· rfl); (· exact k3))
 clear k3
 refine (toRecO r p _ HS.out a3.out).mono ?_
 rintro e w4 ⟨p4, rfl, o4, _, hb4, ow4, f4⟩
 obtain ⟨X4, col4, has4⟩ := ow4.has o4 f4
 have lay4 := has4.lay
 have ZL := hid (show ∀ i x, zone r p4 (ixA (X4.H.map (·.2))) (lenM r.held) (ixA (X4.A.map (·.2))) (lenA r.acks) i x → W3.heap.size ≤ x.block ∧ x.block < w4.heap.size from fun i x hz => ⟨lay4.2 i x hz, lay4.1.lt i x hz⟩)
 obtain ⟨W4, hW4⟩ : ∃ v, v = w4.alloc (.cells (rcV r p4) 41) := ⟨_, rfl⟩
 have E4 := hid (show Below w4.heap.size w4 W4 by rw [hW4]; exact ext_alloc (Below.refl _ _) _)
 have K7 := hid (show Blk W4 w4.heap.size (rcV r p4) 41 by rw [hW4]; exact Blk.new _ _ _)
 have X4h := hid (has4.ext E4.out)
 have T4 := hid (ext_trans hb4 E4.out)
 have S4 := hid (show w4.heap.size < W4.heap.size from K7.out.lt)
 have S34 := hid hb4.size
 have m4 := KM.out.ext T4.out
 rw [hW4] at m4
 clear o4 hb4 ow4 f4 has4 lay4
 go_wp2_with (first | ((with_reducible refine wpList_store_rec (rcV r p4) rfl ?_ ?_ ?_ ?_ ?_); (· rfl); (· rfl); (· rfl); (· simp [Value.oneCell'])) | ((with_reducible refine wpList_load_lmsg (w.heap.size + 1) (msgV m (.slice al l.length cap)) rfl ?_ ?_ ?_); (· rfl); (· exact m4)))
 rw [← hW4]
 clear hW4 m4
 refine (toMsg m al l l.length cap _ rfl HL.out (s3.out.ext T4.out)).mono ?_
 rintro e w4b ⟨gx, rfl, hgx, owx, hb4b⟩
 obtain ⟨WX, hWX⟩ : ∃ v, v = w4b.alloc (.cells (msgV m (.slice (some ⟨gx, 0, none⟩) l.length l.length)) 45) := ⟨_, rfl⟩
 have EX := hid (show Below W4.heap.size W4 WX by rw [hWX]; exact ext_alloc hb4b _)
 have KX := hid (show Blk WX w4b.heap.size (msgV m (.slice (some ⟨gx, 0, none⟩) l.length l.length)) 45 by rw [hWX]; exact Blk.new _ _ _)
 have OX := hid (show SlotsOwn WX gx l by rw [hWX]; exact owx.ext (ext_alloc (Below.refl _ _) _))
 have GX := hid (show W4.heap.size ≤ gx ∧ gx < w4b.heap.size from ⟨hgx, owx.lt⟩)
 have GY := hid (show w4b.heap.size < WX.heap.size from KX.out.lt)
 have K7x := hid (K7.out.ext EX.out)
 have X4x := hid (X4h.out.ext EX.out)
 have TX := hid (ext_trans T4.out EX.out)
 have kx := KX.out
 have k7 := K7x.out
 rw [hWX] at kx k7
 clear hgx owx hb4b T4 X4h K7
 go_wp2_with (first | ((with_reducible refine wpList_store_imsg (msgV m (.slice (some ⟨gx, 0, none⟩) l.length l.length)) rfl ?_ ?_ ?_ ?_ ?_); (· rfl); (· rfl); (· rfl); (· simp [Value.oneCell'])) | ((with_reducible refine wpList_load_rec w4.heap.size (rcV r p4) rfl ?_ ?_ ?_); (· rfl); (· exact k7)) | ((with_reducible refine wpList_load_imsg w4b.heap.size (msgV m (.slice (some ⟨gx, 0, none⟩) l.length l.length)) rfl ?_ ?_ ?_); (· rfl); (· exact kx)))
 rw [← hWX]
 clear hWX kx k7
 refine (implRecTake W3.heap.size r p4 X4 col4 m (some ⟨gx, 0, none⟩) l l.length _ HS.out HL.out ⟨Nat.le_refl _, by have := HL.out; unfold maxLen; omega⟩ HX.out (OX.out.at s3.out.good) (fun x hx => by cases hx; exact OX.out.lt) X4x.out).mono ?_
 rintro e w5 ⟨p5, X5, col5, rfl, has5, hb5⟩
 rw [← HR.out] at has5 ⊢
 obtain ⟨W5, hW5⟩ : ∃ v, v = w5.alloc (.cells (rcV RR p5) 41) := ⟨_, rfl⟩
 have E5 := hid (show Below WX.heap.size WX W5 by rw [hW5]; exact ext_alloc hb5 _)
 have K8 := hid (show Blk W5 w5.heap.size (rcV RR p5) 41 by rw [hW5]; exact Blk.new _ _ _)
 have G5 := hid (show RcHas WX.heap.size W5 RR p5 X5 col5 by rw [hW5]; exact has5.ext (ext_alloc (Below.refl _ _) _))
 have ZG := hid (show ∀ i x, zone RR p5 (ixA (X5.H.map (·.2))) (lenM RR.held) (ixA (X5.A.map (·.2))) (lenA RR.acks) i x → WX.heap.size ≤ x.block ∧ x.block < w5.heap.size from fun i x hz => ⟨has5.lay.2 i x hz, has5.lay.1.lt i x hz⟩)
 have X5h := hid (X4x.out.ext E5.out)
 have O5 := hid (OX.out.ext E5.out)
 have K7b := hid (K7x.out.ext E5.out)
 have KXb := hid (KX.out.ext E5.out)
 have T5 := hid (ext_trans TX.out E5.out)
 have K6b := hid (K6.out.ext T5.out)
 have k8 := K8.out
 have k6 := K6b.out
 rw [hW5] at k8 k6
 have S5 := hid (show WX.heap.size ≤ w5.heap.size from hb5.size)
 have S4X := hid (show W4.heap.size ≤ w4b.heap.size from Nat.le_of_lt (Nat.lt_of_le_of_lt GX.out.1 GX.out.2))
 clear has5 hb5 E5 X4x K7x TX E4 KX OX EX
 go_wp2_with (first | ((with_reducible refine wpList_store_rec (rcV RR p5) rfl ?_ ?_ ?_ ?_ ?_); (· rfl); (· rfl); (· rfl); (· simp [Value.oneCell'])) | ((with_reducible refine wpList_load_rec w5.heap.size (rcV RR p5) rfl ?_ ?_ ?_); (· rfl); (· exact k8)) | ((with_reducible refine wpList_load_rec g3 (rcV RR p3) rfl ?_ ?_ ?_); (· rfl); (· exact k6)))
 rw [← hW5]
 clear hW5 k8 k6
 refine (eqRec_same RR p5 p3 _ G5.out.at (S3.out.ext T5.out)).mono ?_
 rintro e w6 ⟨rfl, hb6⟩
 have T6 := hid (ext_trans T5.out hb6)
 have K7c := hid (K7b.out.ext hb6)
 have KXc := hid (KXb.out.ext hb6)
 have K8c := hid (K8.out.ext hb6)
 have G6 := hid (G5.out.ext hb6)
 have X6 := hid (X5h.out.ext hb6)
 have O6 := hid (O5.out.ext hb6)
 clear hb6 T5 K7b K8 G5 X5h K6b KXb O5
 have hK0 : LawS w6 w.heap.size w4.heap.size r p p4 w6 := ⟨KL.out.ext T6.out, K7c.out, Below.refl _ _⟩
 go_wp2_with fail
 refine wp_region_held_drew (S := LawS w6 w.heap.size w4.heap.size r p p4) (by kernel_rfl) hK0.drew (fun hHeld => ?_)
 clear hK0
 simp only [qz, Nat.reduceAdd]
 refine wpAnyH_take (i := 0) (at_lit rfl) (by kernel_rfl) (by kernel_rfl) (by kernel_rfl) (fun _ _ _ h => h) (yields_own (by rfl) _ rfl rfl) hHeld ?_
 try simp only [qq]
 refine wpAnyH_take (i := 1) (at_lit rfl) (by kernel_rfl) (by kernel_rfl) (by kernel_rfl) (fun _ _ _ h => h) (yields_law (by rfl) _ rfl rfl) hHeld ?_
 try simp only [qq]
 refine rdH 2 (by kernel_rfl) (at_lit rfl) (fun K hK => ?_)
 go_simp
 refine (toRec r p _ HS.out (a3.out.ext (ext_trans T6.out hHeld.bel))).mono ?_
 rintro e w7 ⟨p7, rfl, o7, hW7, hb7⟩
 go_wp2_with fail
 refine hK.out _ _ (hHeld.ext hb7) (fun hNew => ?_)
 clear hK K hHeld hb7 hW7
 have hHeld := hNew
 clear hNew
 try simp only [qq]
 refine rdH 3 (by kernel_rfl) (at_lit rfl) (fun K hK => ?_)
 go_simp
 refine (eqRec_same r p4 p7 _ (X6.out.ext hHeld.bel).at o7).mono ?_
 rintro e w8 ⟨rfl, hb8⟩
 go_wp2_with fail
 refine hK.out _ _ (hHeld.ext hb8) (fun hNew => ?_)
 clear hK K hHeld hb8 o7
 have hHeld := hNew
 clear hNew
 try simp only [qq]
 refine planH.go [4] ?_
 iterate 1 (apply planH.take (at_lit rfl) (by kernel_rfl) (by rfl) (fun _ _ _ h => h) hHeld; (· intro w9 hSw; clear hSw; go_simp; try with_reducible rfl); try simp only [qq])
 refine planH.fin ?_
 refine wpAnyH_done (by kernel_rfl) ?_ _
 have T8 := hid (ext_trans T6.out hHeld.bel)
 have K7d := hid hHeld.own
 have KXd := hid (KXc.out.ext hHeld.bel)
 have K8d := hid (K8c.out.ext hHeld.bel)
 have G8 := hid (G6.out.ext hHeld.bel)
 have X8 := hid (X6.out.ext hHeld.bel)
 have O8 := hid (O6.out.ext hHeld.bel)
 clear hHeld T6 K7c K8c G6 X6 KXc O6
 have hK0 : LawM w8 (w.heap.size + 1) w4b.heap.size (msgV m (.slice al l.length cap)) (msgV m (.slice (some ⟨gx, 0, none⟩) l.length l.length)) w8 := ⟨KM.out.ext T8.out, KXd.out, Below.refl _ _⟩
 go_wp2_with fail
 refine wp_region_held_drew (S := LawM w8 (w.heap.size + 1) w4b.heap.size (msgV m (.slice al l.length cap)) (msgV m (.slice (some ⟨gx, 0, none⟩) l.length l.length))) (by kernel_rfl) hK0.drew (fun hHeld => ?_)
 clear hK0
 simp only [qz, Nat.reduceAdd]
 refine wpAnyH_take (i := 0) (at_lit rfl) (by kernel_rfl) (by kernel_rfl) (by kernel_rfl) (fun _ _ _ h => h) (yields_ms (fun w9 hS => hS.own) rfl (by rfl) _ rfl rfl) hHeld ?_
 try simp only [qq]
 refine wpAnyH_take (i := 1) (at_lit rfl) (by kernel_rfl) (by kernel_rfl) (by kernel_rfl) (fun _ _ _ h => h) (yields_lm (fun w9 hS => hS.blk) rfl (by rfl) _ rfl rfl) hHeld ?_
 try simp only [qq]
 refine rdH 2 (by kernel_rfl) (at_lit rfl) (fun K hK => ?_)
 go_simp
 refine (toMsg m al l l.length cap _ rfl HL.out (s3.out.ext (ext_trans T8.out hHeld.bel))).mono ?_
 rintro e y7 ⟨gy, rfl, _, oy7, hb7⟩
 go_wp2_with fail
 refine hK.out _ _ (hHeld.ext hb7) (fun hNew => ?_)
 clear hK K hHeld hb7
 have hHeld := hNew
 clear hNew
 try simp only [qq]
 refine rdH 3 (by kernel_rfl) (at_lit rfl) (fun K hK => ?_)
 go_simp
 refine (eqMsg_same m _ _ l l.length l.length l.length _ rfl HC.out ((O8.out.ext hHeld.bel).at s3.out.good) (oy7.at s3.out.good)).mono ?_
 rintro e y8 ⟨rfl, hb8⟩
 go_wp2_with fail
 refine hK.out _ _ (hHeld.ext hb8) (fun hNew => ?_)
 clear hK K hHeld hb8 oy7
 have hHeld := hNew
 clear hNew
 try simp only [qq]
 refine planH.go [4] ?_
 iterate 1 (apply planH.take (at_lit rfl) (by kernel_rfl) (by rfl) (fun _ _ _ h => h) hHeld; (· intro w9 hSw; clear hSw; go_simp; try with_reducible rfl); try simp only [qq])
 refine planH.fin ?_
 refine wpAnyH_done (by kernel_rfl) ?_ _
 have T8b := hid (ext_trans T8.out hHeld.bel)
 have Q7 := K7d.out.ext hHeld.bel
 have KXe := hid hHeld.own
 have K8e := hid (K8d.out.ext hHeld.bel)
 have G8b := hid (G8.out.ext hHeld.bel)
 have X8b := hid (X8.out.ext hHeld.bel)
 have O8b := hid (O8.out.ext hHeld.bel)
 clear hHeld T8 K7d KXd K8d G8 X8 O8
 go_wp2_with ((with_reducible refine wpList_load_rec w4.heap.size (rcV r p4) rfl ?_ ?_ ?_); (· rfl); (· exact Q7))
 refine (markRec r p4 _ _ _ _ _ _ 1 _ (cnt_le HS.out) HS.out X8b.out.lay.1).mono ?_
 rintro e w9 ⟨rfl, wr9⟩
 have WB := hid (show ∀ q ∈ wsTo r p4 (ixA (X4.H.map (·.2))) (lenM r.held) (ixA (X4.A.map (·.2))) (lenA r.acks) 1 7, W3.heap.size ≤ q.1.block ∧ q.1.block < w4.heap.size from fun q hq => by obtain ⟨i, hz⟩ := wsTo_zone hq; exact ZL.out i _ hz)
 have T9 := hid (Wrote.below T8b.out wr9 (Nat.le_refl _) (fun q hq => (WB.out q hq).1))
 have G9 := hid (RcHas.wroteW G8b.out wr9 (fun q hq => by have := (WB.out q hq).2; have := S4.out; have := S4X.out; have := GY.out; omega))
 have K89 := hid (wr9.blk K8e.out (fun q hq e => by have := (WB.out q hq).2; have := S4.out; have := S5.out; have := S4X.out; have := GY.out; omega))
 have kx9 := wr9.blk KXe.out (fun q hq e => by have := (WB.out q hq).2; have := S4.out; have := S4X.out; omega)
 have RM9 := hid (O8b.out.room.wrote wr9)
 have C9 := hid (cnt_le HS.out)
 clear wr9 WB T8b Q7 K8e G8b X8b ZL O8b KXe
 obtain ⟨K9, hK9⟩ : ∃ k, k = cnt r (lenM r.held) (lenA r.acks) 1 7 := ⟨_, rfl⟩
 have CB := hid (show K9 + 2 * l.length ≤ 1152921504606846900 by rw [hK9]; exact take_cnt HS.out HL.out)
 rw [← hK9]
 clear hK9 C9
 go_wp2_with ((with_reducible refine wpList_load_imsg w4b.heap.size (msgV m (.slice (some ⟨gx, 0, none⟩) l.length l.length)) rfl ?_ ?_ ?_); (· rfl); (· exact kx9))
 refine (markMsg m (some ⟨gx, 0, none⟩) l.length l.length K9 _ _ rfl CB.out RM9.out).mono ?_
 rintro e w9b ⟨rfl, wr9b⟩
 have T9b := hid (Wrote.below T9.out wr9b (Nat.le_refl _) (fun q hq => by have := wsS_own hq; have := GX.out.1; have := S4.out; have := S34.out; omega))
 have G9b := hid (RcHas.wroteW G9.out wr9b (fun q hq => by have := wsS_own hq; have := GX.out.2; have := GY.out; omega))
 have k8 := wr9b.blk K89.out (fun q hq e => by have := wsS_own hq; have := GX.out.2; have := GY.out; have := S5.out; omega)
 have k6 := K6.out.ext T9b.out
 clear wr9b T9 G9 K89 kx9 RM9
 obtain ⟨K10, hK10⟩ : ∃ k, k = K9 + 2 * l.length := ⟨_, rfl⟩
 rw [← hK10]
 clear hK10 CB
 have e9 : ¬ ((K10 : Nat) : Int) < 0 := by omega
 go_wp2_with (first | ((with_reducible refine wpList_load_rec_g w5.heap.size (rcV RR p5) rfl ?_ ?_ ?_ ?_); (· rfl); (· rfl); (· exact k8)) | ((with_reducible refine wpList_load_rec_g g3 (rcV RR p3) rfl ?_ ?_ ?_ ?_); (· rfl); (· rfl); (· exact k6)))
 refine (eqRec_same RR p5 p3 _ G9b.out.at (S3.out.ext T9b.out)).mono ?_
 rintro e w10 ⟨rfl, hb10⟩
 have T10 := hid (ext_trans T9b.out hb10)
 have G10 := hid (G9b.out.ext hb10)
 have k10 := k8.ext hb10
 have KA := hid k10
 clear hb10 T9b G9b k8 k6 e9
 go_wp2_with ((with_reducible refine wpList_load_rec w5.heap.size (rcV RR p5) rfl ?_ ?_ ?_); (· rfl); (· exact k10))
 refine (markRec RR p5 _ _ _ _ _ _ 1 _ (cnt_le HSR.out) HSR.out G10.out.lay.1).mono ?_
 rintro e w11 ⟨rfl, wr11⟩
 have WG := hid (show ∀ q ∈ wsTo RR p5 (ixA (X5.H.map (·.2))) (lenM RR.held) (ixA (X5.A.map (·.2))) (lenA RR.acks) 1 7, WX.heap.size ≤ q.1.block ∧ q.1.block < w5.heap.size from fun q hq => by obtain ⟨i, hz⟩ := wsTo_zone hq; exact ZG.out i _ hz)
 have T11 := hid (Wrote.below T10.out wr11 (Nat.le_refl _) (fun q hq => by have := (WG.out q hq).1; have := S34.out; have := S4.out; have := S4X.out; have := GY.out; omega))
 have L11 := hid (G10.out.lay.1.marked wr11)
 have V11 := hid wr11.new
 have k11 := wr11.blk KA.out (fun q hq e => by have := (WG.out q hq).2; omega)
 have K11 := hid k11
 have N11 := hid (show w5.heap.size < w11.heap.size from k11.lt)
 clear wr11 T10 G10 k10 KA
 obtain ⟨M9, hM9⟩ : ∃ k, k = cnt RR (lenM RR.held) (lenA RR.acks) 1 7 := ⟨_, rfl⟩
 have HM9 := hid hM9
 rw [← hM9]
 clear hM9
 go_wp2_with ((with_reducible refine wpList_load_rec w5.heap.size (rcV RR p5) rfl ?_ ?_ ?_); (· rfl); (· exact k11))
 refine (heldRec RR p5 _ _ _ _ _ _ 1 _ (cnt_le HSR.out) HSR.out L11.out V11.out).mono ?_
 rintro e w12 ⟨rfl, hb12⟩
 rw [← HM9.out]
 have T12 := hid (ext_trans T11.out hb12)
 have L12 := hid (L11.out.ext hb12)
 have V12 := hid (marks_ext V11.out (fun q hq => by have := (WG.out q hq).2; have := N11.out; omega) hb12)
 have K12 := hid (K11.out.ext hb12)
 have a12 := hid (a3.out.ext T12.out)
 have s12 := hid (s3.out.ext T12.out)
 have LT12 := hid (show LawT w12 w.heap.size (w.heap.size + 1) (rcV r p) (msgV m (.slice al l.length cap)) w12 from ⟨KL.out.ext T12.out, KM.out.ext T12.out, Below.refl _ _⟩)
 clear T11 L11 V11 k11 K11 hb12
 have e12 : ¬ ((M9 : Nat) : Int) < 0 := by omega
 go_wp2_with fail
 refine wp_gen (FinT w12 r p m al l cap RR 75 76 77 78 79 13) (fun _ _ dst _ _ h => by cases dst <;> exact h) (fun QQ hP KF => ?_) ?_
 ·refine wp_region_last (S := LawT w12 w.heap.size (w.heap.size + 1) (rcV r p) (msgV m (.slice al l.length cap))) 6 (by kernel_rfl) LT12.out.drew (fun hHeld => ?_)
  simp only [qz, Nat.reduceAdd]
  have E0 := hid (show Below w12.heap.size w12 w12.drew from (Below.refl _ _).drew)
  refine wpLast_take (i := 0) (v := .agg (rcV r p)) (at_lit rfl) (by kernel_rfl) (by kernel_rfl) (by kernel_rfl) (by kernel_rfl) (fun c a w h => hP c a _ _ w h) (yields_lr (fun w9 hS => hS.blk) rfl (by rfl) _ rfl rfl) hHeld ?_
  try simp only [qq]
  refine wpLast_take (i := 2) (v := .agg (msgV m (.slice al l.length cap))) (at_lit rfl) (by kernel_rfl) (by kernel_rfl) (by kernel_rfl) (by kernel_rfl) (fun c a w h => hP c a _ _ w h) (yields_lm (fun w9 hS => hS.bm) rfl (by rfl) _ rfl rfl) hHeld ?_
  try simp only [qq]
  refine wpLast_ready (rs := [1, 5]) (by kernel_rfl) (by simp) ?_
  refine AllLast.cons (at_lit rfl) (fun K hK => ?_) (AllLast.cons (at_lit rfl) (fun K hK => ?_) AllLast.nil)
  ·go_simp
   refine (toRecO r p _ HS.out (a12.out.ext E0.out)).mono ?_
   rintro e v1 ⟨pp1, rfl, oo, _, hb, ow, ff⟩
   obtain ⟨XX1, cc1, has⟩ := ow.has oo ff
   have HA1 := hid has
   have E1 := hid (ext_trans E0.out hb)
   have SS := hHeld.ext hb
   clear oo ow ff has hb
   go_wp2_with fail
   refine hK.out _ _ SS (fun hNew => ?_)
   clear hK K hHeld
   have hHeld := hNew
   clear hNew
   try simp only [qq]
   clear SS
   refine wpLast_ready (rs := [3, 5]) (by kernel_rfl) (by simp) ?_
   refine AllLast.cons (at_lit rfl) (fun K hK => ?_) (AllLast.cons (at_lit rfl) (fun K hK => ?_) AllLast.nil)
   ·go_simp
    refine (toMsg m al l l.length cap _ rfl HL.out (s12.out.ext E1.out)).mono ?_
    rintro e v2 ⟨gm2, rfl, hgm, ow, hb⟩
    have SO2 := hid (ow.at s12.out.good)
    have SL2 := hid ow.lt
    have HA2 := hid (HA1.out.ext hb)
    have E2 := hid (ext_trans E1.out hb)
    have SS := hHeld.ext hb
    clear ow hgm hb
    go_wp2_with fail
    refine hK.out _ _ SS (fun hNew => ?_)
    clear hK K hHeld
    have hHeld := hNew
    clear hNew
    try simp only [qq]
    clear SS
    refine wpLast_ready (rs := [4, 5]) (by kernel_rfl) (by simp) ?_
    refine AllLast.cons (at_lit rfl) (fun K hK => ?_) (AllLast.cons (at_lit rfl) (fun K hK => ?_) AllLast.nil)
    ·go_simp
     refine (implRecTake _ r pp1 XX1 cc1 m (some ⟨gm2, 0, none⟩) l l.length _ HS.out HL.out ⟨Nat.le_refl _, by have := HL.out; unfold maxLen; omega⟩ HX.out SO2.out (fun x hx => by cases hx; exact SL2.out) HA2.out).mono ?_
     rintro e v3 ⟨pp3, XX3, cc3, rfl, has, hb⟩
     rw [← HR.out] at has ⊢
     have H33 := hid has
     have E3 := hid (ext_trans E2.out hb)
     have SZ3 := hid (show w12.heap.size ≤ v2.heap.size from E2.out.size)
     have SS := hHeld.ext hb
     clear has hb
     go_wp2_with fail
     refine hK.out _ _ SS (fun hNew => ?_)
     clear hK K hHeld
     have hHeld := hNew
     clear hNew
     try simp only [qq]
     clear SS
     refine rdL 5 (by kernel_rfl) (at_lit rfl) (fun K hK => ?_)
     go_simp
     obtain ⟨v4, hv4⟩ : ∃ x, x = (v3).alloc (.cells zRc 41) := ⟨_, rfl⟩
     have EX4 := hid (show Below (v3).heap.size (v3) v4 by rw [hv4]; exact ext_alloc (Below.refl _ _) _)
     have KB4 := hid (show Blk v4 (v3).heap.size zRc 41 by rw [hv4]; exact Blk.new _ _ _)
     have E4 := hid (ext_trans E3.out EX4.out)
     have SG4 := hid (show w12.heap.size ≤ (v3).heap.size from E3.out.size)
     rw [← hv4]
     refine hK.out _ _ (hHeld.ext EX4.out) (fun hNew => ?_)
     clear hK K hHeld
     have hHeld := hNew
     clear hNew
     try simp only [qq]
     clear hv4
     refine wpLast_end (by kernel_rfl) (at_lit rfl) (by kernel_rfl) (fun K hK => ?_)
     rw [if_pos (by rfl)]
     refine wp_store_row 41 _ _ rfl (v3).heap.size (rcV RR pp3) rfl rfl 41 zRc KB4.out (by kernel_rfl) rfl (by simp [Value.oneCell']) ?_
     refine hK.out _ _ ?_
     refine KF.out _ _ ⟨(v3).heap.size, pp1, gm2, pp3, XX3, cc3, ?_, SG4.out, setRow_heap _ _ _ _ _ _ KB4.out, (H33.out.same (fun b hb hl _ => (setRow_other _ _ b _ (by omega)).trans (EX4.out.block b hl))).lower SZ3.out, below_setRow' E4.out SG4.out _⟩
     rfl
    go_simp
    obtain ⟨v5, hv5⟩ : ∃ x, x = (v2).alloc (.cells zRc 41) := ⟨_, rfl⟩
    have EX5 := hid (show Below (v2).heap.size (v2) v5 by rw [hv5]; exact ext_alloc (Below.refl _ _) _)
    have KB5 := hid (show Blk v5 (v2).heap.size zRc 41 by rw [hv5]; exact Blk.new _ _ _)
    have E5 := hid (ext_trans E2.out EX5.out)
    have SG5 := hid (show w12.heap.size ≤ (v2).heap.size from E2.out.size)
    have HA5 := hid (HA2.out.ext EX5.out)
    have SO5 := hid (SO2.out.ext EX5.out)
    have SL5 := hid (Nat.lt_of_lt_of_le SL2.out EX5.out.size)
    rw [← hv5]
    refine hK.out _ _ (hHeld.ext EX5.out) (fun hNew => ?_)
    clear hK K hHeld
    have hHeld := hNew
    clear hNew
    try simp only [qq]
    clear hv5
    refine rdL 4 (by kernel_rfl) (at_lit rfl) (fun K hK => ?_)
    go_simp
    refine (implRecTake _ r pp1 XX1 cc1 m (some ⟨gm2, 0, none⟩) l l.length _ HS.out HL.out ⟨Nat.le_refl _, by have := HL.out; unfold maxLen; omega⟩ HX.out SO5.out (fun x hx => by cases hx; exact SL5.out) HA5.out).mono ?_
    rintro e v6 ⟨pp6, XX6, cc6, rfl, has, hb⟩
    rw [← HR.out] at has ⊢
    have H36 := hid has
    have E6 := hid (ext_trans E5.out hb)
    have SZ6 := hid (show w12.heap.size ≤ v5.heap.size from E5.out.size)
    have SS := hHeld.ext hb
    have GB6 := hid KB5.out.lt
    have KB6 := hid (KB5.out.ext hb)
    clear has hb
    go_wp2_with fail
    refine hK.out _ _ SS (fun hNew => ?_)
    clear hK K hHeld
    have hHeld := hNew
    clear hNew
    try simp only [qq]
    clear SS
    refine wpLast_end (by kernel_rfl) (at_lit rfl) (by kernel_rfl) (fun K hK => ?_)
    rw [if_pos (by rfl)]
    refine wp_store_row 41 _ _ rfl (v2).heap.size (rcV RR pp6) rfl rfl 41 zRc KB6.out (by kernel_rfl) rfl (by simp [Value.oneCell']) ?_
    refine hK.out _ _ ?_
    refine KF.out _ _ ⟨(v2).heap.size, pp1, gm2, pp6, XX6, cc6, ?_, SG5.out, setRow_heap _ _ _ _ _ _ KB6.out, (H36.out.same (fun b hb hl _ => setRow_other _ _ b _ (by have := GB6.out; omega))).lower SZ6.out, below_setRow' E6.out SG5.out _⟩
    rfl
   go_simp
   obtain ⟨v7, hv7⟩ : ∃ x, x = (v1).alloc (.cells zRc 41) := ⟨_, rfl⟩
   have EX7 := hid (show Below (v1).heap.size (v1) v7 by rw [hv7]; exact ext_alloc (Below.refl _ _) _)
   have KB7 := hid (show Blk v7 (v1).heap.size zRc 41 by rw [hv7]; exact Blk.new _ _ _)
   have E7 := hid (ext_trans E1.out EX7.out)
   have SG7 := hid (show w12.heap.size ≤ (v1).heap.size from E1.out.size)
   have HA7 := hid (HA1.out.ext EX7.out)
   rw [← hv7]
   refine hK.out _ _ (hHeld.ext EX7.out) (fun hNew => ?_)
   clear hK K hHeld
   have hHeld := hNew
   clear hNew
   try simp only [qq]
   clear hv7
   refine rdL 3 (by kernel_rfl) (at_lit rfl) (fun K hK => ?_)
   go_simp
   refine (toMsg m al l l.length cap _ rfl HL.out (s12.out.ext E7.out)).mono ?_
   rintro e v8 ⟨gm8, rfl, hgm, ow, hb⟩
   have SO8 := hid (ow.at s12.out.good)
   have SL8 := hid ow.lt
   have HA8 := hid (HA7.out.ext hb)
   have E8 := hid (ext_trans E7.out hb)
   have SS := hHeld.ext hb
   have KB8 := hid (KB7.out.ext hb)
   clear ow hgm hb
   go_wp2_with fail
   refine hK.out _ _ SS (fun hNew => ?_)
   clear hK K hHeld
   have hHeld := hNew
   clear hNew
   try simp only [qq]
   clear SS
   refine rdL 4 (by kernel_rfl) (at_lit rfl) (fun K hK => ?_)
   go_simp
   refine (implRecTake _ r pp1 XX1 cc1 m (some ⟨gm8, 0, none⟩) l l.length _ HS.out HL.out ⟨Nat.le_refl _, by have := HL.out; unfold maxLen; omega⟩ HX.out SO8.out (fun x hx => by cases hx; exact SL8.out) HA8.out).mono ?_
   rintro e v9 ⟨pp9, XX9, cc9, rfl, has, hb⟩
   rw [← HR.out] at has ⊢
   have H39 := hid has
   have E9 := hid (ext_trans E8.out hb)
   have SZ9 := hid (show w12.heap.size ≤ v8.heap.size from E8.out.size)
   have SS := hHeld.ext hb
   have GB9 := hid KB8.out.lt
   have KB9 := hid (KB8.out.ext hb)
   clear has hb
   go_wp2_with fail
   refine hK.out _ _ SS (fun hNew => ?_)
   clear hK K hHeld
   have hHeld := hNew
   clear hNew
   try simp only [qq]
   clear SS
   refine wpLast_end (by kernel_rfl) (at_lit rfl) (by kernel_rfl) (fun K hK => ?_)
   rw [if_pos (by rfl)]
   refine wp_store_row 41 _ _ rfl (v1).heap.size (rcV RR pp9) rfl rfl 41 zRc KB9.out (by kernel_rfl) rfl (by simp [Value.oneCell']) ?_
   refine hK.out _ _ ?_
   refine KF.out _ _ ⟨(v1).heap.size, pp1, gm8, pp9, XX9, cc9, ?_, SG7.out, setRow_heap _ _ _ _ _ _ KB9.out, (H39.out.same (fun b hb hl _ => setRow_other _ _ b _ (by have := GB9.out; omega))).lower SZ9.out, below_setRow' E9.out SG7.out _⟩
   rfl
  go_simp
  rw [show (w12.alloc (.cells zRc 41)).drew = w12.drew.alloc (.cells zRc 41) from rfl]
  obtain ⟨v10, hv10⟩ : ∃ x, x = (w12.drew).alloc (.cells zRc 41) := ⟨_, rfl⟩
  have EX10 := hid (show Below (w12.drew).heap.size (w12.drew) v10 by rw [hv10]; exact ext_alloc (Below.refl _ _) _)
  have KB10 := hid (show Blk v10 (w12.drew).heap.size zRc 41 by rw [hv10]; exact Blk.new _ _ _)
  have E10 := hid (ext_trans E0.out EX10.out)
  have SG10 := hid (show w12.heap.size ≤ (w12.drew).heap.size from E0.out.size)
  rw [← hv10]
  refine hK.out _ _ (hHeld.ext EX10.out) (fun hNew => ?_)
  clear hK K hHeld
  have hHeld := hNew
  clear hNew
  try simp only [qq]
  clear hv10
  refine rdL 1 (by kernel_rfl) (at_lit rfl) (fun K hK => ?_)
  go_simp
  refine (toRecO r p _ HS.out (a12.out.ext E10.out)).mono ?_
  rintro e v11 ⟨pp11, rfl, oo, _, hb, ow, ff⟩
  obtain ⟨XX11, cc11, has⟩ := ow.has oo ff
  have HA11 := hid has
  have E11 := hid (ext_trans E10.out hb)
  have SS := hHeld.ext hb
  have KB11 := hid (KB10.out.ext hb)
  clear oo ow ff has hb
  go_wp2_with fail
  refine hK.out _ _ SS (fun hNew => ?_)
  clear hK K hHeld
  have hHeld := hNew
  clear hNew
  try simp only [qq]
  clear SS
  refine rdL 3 (by kernel_rfl) (at_lit rfl) (fun K hK => ?_)
  go_simp
  refine (toMsg m al l l.length cap _ rfl HL.out (s12.out.ext E11.out)).mono ?_
  rintro e v12 ⟨gm12, rfl, hgm, ow, hb⟩
  have SO12 := hid (ow.at s12.out.good)
  have SL12 := hid ow.lt
  have HA12 := hid (HA11.out.ext hb)
  have E12 := hid (ext_trans E11.out hb)
  have SS := hHeld.ext hb
  have KB12 := hid (KB11.out.ext hb)
  clear ow hgm hb
  go_wp2_with fail
  refine hK.out _ _ SS (fun hNew => ?_)
  clear hK K hHeld
  have hHeld := hNew
  clear hNew
  try simp only [qq]
  clear SS
  refine rdL 4 (by kernel_rfl) (at_lit rfl) (fun K hK => ?_)
  go_simp
  refine (implRecTake _ r pp11 XX11 cc11 m (some ⟨gm12, 0, none⟩) l l.length _ HS.out HL.out ⟨Nat.le_refl _, by have := HL.out; unfold maxLen; omega⟩ HX.out SO12.out (fun x hx => by cases hx; exact SL12.out) HA12.out).mono ?_
  rintro e v13 ⟨pp13, XX13, cc13, rfl, has, hb⟩
  rw [← HR.out] at has ⊢
  have H313 := hid has
  have E13 := hid (ext_trans E12.out hb)
  have SZ13 := hid (show w12.heap.size ≤ v12.heap.size from E12.out.size)
  have SS := hHeld.ext hb
  have GB13 := hid KB12.out.lt
  have KB13 := hid (KB12.out.ext hb)
  clear has hb
  go_wp2_with fail
  refine hK.out _ _ SS (fun hNew => ?_)
  clear hK K hHeld
  have hHeld := hNew
  clear hNew
  try simp only [qq]
  clear SS
  refine wpLast_end (by kernel_rfl) (at_lit rfl) (by kernel_rfl) (fun K hK => ?_)
  rw [if_pos (by rfl)]
  refine wp_store_row 41 _ _ rfl (w12.drew).heap.size (rcV RR pp13) rfl rfl 41 zRc KB13.out (by kernel_rfl) rfl (by simp [Value.oneCell']) ?_
  refine hK.out _ _ ?_
  refine KF.out _ _ ⟨(w12.drew).heap.size, pp11, gm12, pp13, XX13, cc13, ?_, SG10.out, setRow_heap _ _ _ _ _ _ KB13.out, (H313.out.same (fun b hb hl _ => setRow_other _ _ b _ (by have := GB13.out; omega))).lower SZ13.out, below_setRow' E13.out SG10.out _⟩
  rfl
 rintro a14 W14 ⟨g14, p13, gm14, p14, X14, col14, rfl, SG14, k14, has14, D14⟩
 try simp only [qq]
 have S14 := hid has14.at
 have T14 := hid (ext_trans T12.out D14)
 have L14 := hid (L12.out.ext D14)
 have V14 := hid (marks_ext V12.out (fun q hq => by have := (WG.out q hq).2; have := K12.out.lt; omega) D14)
 have K12b := hid (K12.out.ext D14)
 have k6 := K6.out.ext T14.out
 clear has14 T12 L12 V12 D14 K12 a12 s12 LT12 SG14
 go_wp2_with (first | ((with_reducible refine wpList_load_rec g14 (rcV RR p14) rfl ?_ ?_ ?_); (· rfl); (· exact k14)) | ((with_reducible refine wpList_load_rec g3 (rcV RR p3) rfl ?_ ?_ ?_); (· rfl); (· exact k6)))
 clear k14 k6
 refine (eqRec_same RR p14 p3 _ S14.out (S3.out.ext T14.out)).mono ?_
 rintro e w15 ⟨rfl, hb15⟩
 have T15 := hid (ext_trans T14.out hb15)
 have L15 := hid (L14.out.ext hb15)
 have V15 := hid (marks_ext V14.out (fun q hq => by have := (WG.out q hq).2; have := K12b.out.lt; omega) hb15)
 have k15 := K12b.out.ext hb15
 clear hb15 T14 L14 V14 S14
 go_wp2_with ((with_reducible refine wpList_load_rec w5.heap.size (rcV RR p5) rfl ?_ ?_ ?_); (· rfl); (· exact k15))
 refine (heldRec RR p5 _ _ _ _ _ _ 1 _ (cnt_le HSR.out) HSR.out L15.out V15.out).mono ?_
 rintro e w16 ⟨rfl, hb16⟩
 rw [← HM9.out]
 have T16 := hid (ext_trans T15.out hb16)
 clear hb16 T15 L15 V15 k15
 go_wp2
 go_ret
 exact ⟨rfl, ext_trans B3.out T16.out⟩
theorem lifted (os : Os) (started : os.Started) (H : Type) (enc : TypeId × Value → H) :
  ReturnsInHanded {} Tryz.checked os 3 .any (Rows.fnExactRecTakeSpec.pre6 enc Tryz.prog Tryz.f3 Rows.fnExactRecTakeRow.domain false) (Rows.fnExactRecTakeSpec.post enc Tryz.prog Tryz.f3 false true false false) := by
 refine returnsInHanded_of_change (C := Tryz.checked) own started (by kernel_rfl) Tryz.func3
  (ChangeSpec.witness6 (enc := enc) (C := Tryz.checked) false ⟨#[], #[.agg zRc, .agg #[.int .i64 0, .int .i64 0, .int .i64 0, .int .i64 0, .int .i64 0, .int .i64 0, .string ⟨#[]⟩, .slice none 0 0]], []⟩ 8 (by kernel_rfl) (by kernel_rfl) (by kernel_rfl) (by kernel_rfl)) ?_
 intro W base args ds gs before hval0 hW hcnd _
 have hval : ∀ (j : Nat) t v, Tryz.f3.params[j]? = some t → args[j]? = some v → Value.okWide Tryz.prog W .any base t v := hval0
 have hW' := hW
 obtain ⟨p, q, hA0, hV, rfl, hfz, hnd⟩ := hW
 have hA : DataW.TrodAll enc Tryz.prog W 0 (fun _ => true) true Tryz.f3.params.toList args.toList ds p := hA0
 rw [Tryz.params3] at hA hval
 obtain ⟨v0, vs0, d0, ds0, p0, q0, hargs, rfl, rfl, h0, r0⟩ := trodAll_cons hA
 obtain ⟨v1, vs1, d1, ds1, p1, q1, rfl, rfl, rfl, h1, r1⟩ := trodAll_cons r0
 obtain ⟨rfl, rfl, rfl⟩ := trodAll_nil r1
 obtain rfl : args = #[v0, v1] := by cases args; simp_all
 obtain ⟨rfl, rfl⟩ := trodVars_none hV
 have k0 := h0
 have lt0 : ∀ x ∈ p0, x.block < W.heap.size := by obtain ⟨m, hm⟩ := k0; exact DataW.trod_lt m _ _ _ hm
 have k1 := h1
 have lt1 : ∀ x ∈ p1, x.block < W.heap.size := by obtain ⟨m, hm⟩ := k1; exact DataW.trod_lt m _ _ _ hm
 obtain ⟨r, rp, rfl, hs⟩ := rec_open (hval 0 30 v0 rfl rfl) h0
 obtain ⟨m, a, n, cap, l, rfl, hx, hn, hm, hsl⟩ := msg_open (hval 1 32 v1 rfl rfl) h1
 subst hn
 clear hA0 hval0
 refine (walk r rp m a l cap W hs hx hm hsl).mono fun e W' ⟨he, bel⟩ => ?_
 subst he
 exact ⟨_, rfl, _, _, _, [], _, [], hW', trodAll_mk1 (shut_bool Tryz.underlying4 _), (trodAll_cons_mk (Below.trod laidOut (by kernel_rfl) (of_decide_eq_true (by kernel_rfl)) k0 bel lt0) (trodAll_cons_mk (Below.trod laidOut (by kernel_rfl) (of_decide_eq_true (by kernel_rfl)) k1 bel lt1) trodAll_mk0)), rfl, bel.frame _, fun h => by cases h⟩
theorem over : Rows.fnExactRecTakeRow.holds Tryz.pinned (OpenSpec.ofChange Rows.fnExactRecTakeSpec) :=
 OpenClaim.holds_of_wide 3 Tryz.f3 rfl rfl rfl rfl rfl rfl rfl ⟨rfl, rfl, rfl, rfl, rfl⟩ rfl rfl rfl rfl rfl (by kernel_rfl) Tryz.func3 (by kernel_rfl)
  (of_decide_eq_true (by kernel_rfl)) (by unfold Func.isWrapper; first | (rw [if_pos (by decide +kernel)]; kernel_rfl) | (rw [if_neg (by decide +kernel)]; exact ⟨rfl, rfl⟩))
  (fun os started H enc _ => lifted os started H enc)
theorem proved : Rows.FnExactRecTakeSaid := over
#print axioms proved
end Go.Proofs.YtffklmlljekceaaGreat.fnExactRecTake
