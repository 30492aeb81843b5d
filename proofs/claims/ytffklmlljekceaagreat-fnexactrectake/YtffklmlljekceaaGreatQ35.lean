import Derived.Test.YtffklmlljekceaaGreatQ33
import Derived.Test.YtffklmlljekceaaGreatQ34
namespace Go.Proofs.YtffklmlljekceaaGreat
open Go.ChangeShapes Go.WideShapes Go.ChangeAt Go.RowKit
set_option linter.unusedSimpArgs false
set_option linter.unusedVariables false
set_option maxHeartbeats 16000000
set_option maxRecDepth 20000
def rc0 : Rc := ⟨0, 0, false, 0, 0, [], 0, 0, [], [], [], false, false, 0, [], [], [], 0⟩
def rp0 : RcP := ⟨none, 0, none, 0, none, 0, none, 0, none, 0, none, 0, none, 0⟩
theorem rowC_nil0 (B : Nat) (w : World) (col : Nat → Nat) (t : Nat) (e : TypeId) (k : Nat) : RowC B w col t e k none 0 0 [] := ⟨World.ownsRow_nil _ _ _ _, fun x hx => by simp at hx⟩
theorem rc0_has (B : Nat) (w : World) (col : Nat → Nat) : RcHas B w rc0 rp0 ⟨[], []⟩ col :=
 ⟨rowC_nil0 _ _ _ _ _ _, rowC_nil0 _ _ _ _ _ _, rowC_nil0 _ _ _ _ _ _, rfl, ⟨fun m hm => absurd hm (by simp), List.Pairwise.nil⟩, rowC_nil0 _ _ _ _ _ _, rowC_nil0 _ _ _ _ _ _, rowC_nil0 _ _ _ _ _ _, rowC_nil0 _ _ _ _ _ _, rfl, ⟨fun m hm => absurd hm (by simp), List.Pairwise.nil⟩,
  ⟨fun i s hs => by simp [rc0] at hs, fun i s hs => by simp [rc0] at hs, fun i s hs => by simp [rc0] at hs, fun i s hs => by simp [rc0] at hs, fun i s hs => by simp [rc0] at hs, fun i s hs => by simp [rc0] at hs, fun i s hs => by simp [rc0] at hs⟩⟩
def APost (w : World) (r' : Rc) (e : Ending) (w' : World) : Prop := ∃ p' X' col', e = .returned (.agg (rcV r' p')) ∧ RcHas w.heap.size w' r' p' X' col' ∧ Below w.heap.size w w'
theorem RcHas.far {B : Nat} {w : World} {r : Rc} {p : RcP} {X : RcX} {col : Nat → Nat} (h : RcHas B w r p X col) {g : Nat} (hg : g < B) (cs : Array Value) : RcHas B (w.setRow g cs) r p X col :=
 h.same fun b hb _ _ => setRow_other w g b cs (by omega)
theorem RcHas.lower {B B' : Nat} {w : World} {r : Rc} {p : RcP} {X : RcX} {col : Nat → Nat} (h : RcHas B w r p X col) (hB : B' ≤ B) : RcHas B' w r p X col :=
 ⟨h.s.low hB, h.d.low hB, h.h.low hB, h.hm, ⟨fun m hm => (h.hi.row m hm).low hB, h.hi.apart⟩, h.t.low hB, h.y.low hB, h.b.low hB, h.a.low hB, h.am, ⟨fun m hm => (h.ai.row m hm).low hB, h.ai.apart⟩, h.gd⟩
theorem wpList_load_msg_g {ops : Array Oper} {rest : List Oper} {dst : Option Tmp} {x : Operand} {τ : TypeId} {pos : String} {after : Array Edge} {gd : Option (Nat × Bool)} {a : Act} {w : World} {Q : Exit → Act → World → Prop}
  (g : Nat) (cs : Array Value) (hs : cs.size = 8) (hw : Region.wanted { dst := dst, op := .load 45 x, type := τ, pos := pos, after := after, guard := gd } (yielded ops a.tmps) = true) (hx : a.eval x = .pointer (some ⟨g, 0, none⟩)) (hg : Blk w g cs 45)
  (h : wpList Tryz.prog ops Q rest (a.put dst (.agg cs)) w) :
  wpList Tryz.prog ops Q ({ dst := dst, op := .load 45 x, type := τ, pos := pos, after := after, guard := gd } :: rest) a w :=
 wpList_step fun K hK => by
  rw [if_pos hw]
  exact wp_load_row (o := { dst := dst, op := .load 45 x, type := τ, pos := pos, after := after, guard := gd }) 45 x rfl g hx 45 cs (0, 0) _ hg Tryz.underlying45 rfl (by rw [hs]; kernel_rfl) (hK _ _ h)
def recTake (r : Rc) (m : MsgH) (l : List Sl) : Rc := if validB r = true then (if r.up = true ∧ msgOkB m r.of_ l = true ∧ m.t = r.num then takeR r m l else r) else rc0
theorem yields_ms {S : World → Prop} {ops : Array Oper} {o : Oper} {a : Act} {g : Nat} {cs : Array Value} (hb : ∀ w, S w → Blk w g cs 45) (hs : cs.size = 8) (hw : Region.wanted o (yielded ops a.tmps) = true) (x : Operand) (ho : o.op = .load 45 x) (hx : a.eval x = .pointer (some ⟨g, 0, none⟩)) :
  YieldsIf Tryz.prog ops S o (.agg cs) a :=
 .inl ⟨hw, fun w hS => by
  unfold execOp
  simp only [ho, hx, Instr.loadAt, Instr.sureAddr, Sem.run_bind, Sem.run_pure, Result.andThen_ok, run_loadVar_row w g 45 45 cs (0, 0) _ (hb w hS) Tryz.underlying45 rfl (by rw [hs]; kernel_rfl)]⟩
structure RecTakeS (g h : Nat) (c cm : Array Value) (w' : World) : Prop where
 blk : Blk w' g c 41
 bm : Blk w' h cm 45
theorem RecTakeS.drew {g h : Nat} {c cm : Array Value} {w' : World} (k : RecTakeS g h c cm w') : RecTakeS g h c cm w'.drew := ⟨k.blk, k.bm⟩
theorem specRecTake (B : Nat) (r : Rc) (p : RcP) (X : RcX) (col : Nat → Nat) (m : MsgH) (al : Option Addr) (l : List Sl) (cl : Nat) (w : World) (hS : RcSmall r) (hl : l.length ≤ 1048576) (hac : al = none → cl = 0) (hsp : ∀ x, al = some x → x.spot = none) (hx : m.x.size ≤ maxLen) (hsl : SlotsAt w al l) (h : RcHas B w r p X col) :
  Calls Tryz.prog 7 #[.agg (rcV r p), .agg (msgV m (.slice al l.length cl))] w (APost w (recTake r m l)) := by
 have RD := hid h
 have HS := hid hS
 have HL := hid (show l.length ≤ 1048576 ∧ (al = none → cl = 0) ∧ (∀ x, al = some x → x.spot = none) from ⟨hl, hac, hsp⟩)
 have SL := hid hsl
 have HX := hid hx
 have GL := hid hsl.good
 clear h hS hac hsp hx hsl
 obtain ⟨V, hV⟩ : ∃ V, V = ((w.alloc (.cells (rcV r p) 41)).alloc (.cells (msgV m (.slice al l.length cl)) 45)).alloc (.cells zRc 41) := ⟨_, rfl⟩
 have BV := hid (show Below w.heap.size w V by rw [hV]; exact ext_alloc (ext_alloc (ext_alloc (Below.refl _ _) _) _) _)
 have K1 := hid (show Blk V w.heap.size (rcV r p) 41 by rw [hV]; exact ((Blk.new _ _ _).alloc _).alloc _)
 have KM := hid (show Blk V (w.heap.size + 1) (msgV m (.slice al l.length cl)) 45 by rw [hV]; exact (Blk.new' _ _ (by simp)).alloc _)
 have K2 := hid (show Blk V (w.heap.size + 1 + 1) zRc 41 by rw [hV]; exact Blk.new' _ _ (by simp))
 have k1 := K1.out
 rw [hV] at k1
 go_enter Tryz.func7, Tryz.ntmps7
 go_wp2_with ((with_reducible refine wpList_load_rec w.heap.size (rcV r p) rfl ?_ ?_ ?_); (· rfl); (· exact k1))
 rw [← hV]
 clear hV k1
 refine (specValid r p _ HS.out (RD.out.ext BV.out).at).mono ?_
 rintro e w1 ⟨rfl, hb1⟩
 have B1 := hid (ext_trans BV.out hb1)
 have k1 := K1.out.ext hb1
 have k2 := K2.out.ext hb1
 have K1b := hid k1
 have KMb := hid (KM.out.ext hb1)
 have K2b := hid k2
 have SZ1 := hid (show w.heap.size + 1 + 1 < w1.heap.size from k2.lt)
 clear hb1 K1 K2 KM BV
 cases hv : validB r
 case false =>
  have HN := hid (show recTake r m l = rc0 by unfold recTake; rw [hv]; rfl)
  go_wp2_with (first
   | ((with_reducible refine wpList_build_to (ty := 41) zRc ?_ ?_); (· kernel_rfl))
   | ((with_reducible refine wpList_store_rec_at (w.heap.size + 1 + 1) zRc zRc rfl rfl ?_ ?_ ?_ ?_ ?_); (· rfl); (· rfl); (· exact k2); (· simp [Value.oneCell'])))
  have hz := setRow_heap _ (w.heap.size + 1 + 1) _ zRc _ _ k2
  refine ret_cell (ty := 41) Tryz.results7 (w.heap.size + 1 + 1) zRc _ ?_ ?_ hz Tryz.underlying41 rfl (by kernel_rfl) ?_
  ·rfl
  ·rfl
  rw [HN.out]
  exact ⟨rp0, ⟨[], []⟩, fun _ => 0, rfl, rc0_has _ _ _, below_setRow' B1.out (by omega) _⟩
 have VO := hid (show r.of_ ≤ 5 by
  have h9 := hv
  unfold validB at h9
  simp only [Bool.and_eq_true] at h9
  exact (inB_iff.1 h9.1.1.1.1.1.1.1.1.1.1.1.1).2)
 go_wp2_with ((with_reducible refine wpList_load_rec w.heap.size (rcV r p) rfl ?_ ?_ ?_); (· rfl); (· exact k1))
 refine (specCopy B r p X col _ HS.out (RD.out.ext B1.out)).mono ?_
 rintro e w2 ⟨p2, X2, col2, rfl, has2, hb2⟩
 have B2 := hid (ext_trans B1.out hb2)
 have SZ2 := hid (show w1.heap.size ≤ w2.heap.size from hb2.size)
 have K1c := hid (K1b.out.ext hb2)
 have KMc0 := hid (KMb.out.ext hb2)
 have K2c0 := hid (K2b.out.ext hb2)
 have HF2 := hid has2.fresh
 clear has2 hb2 k1 k2 K1b KMb K2b
 obtain ⟨W, hW⟩ : ∃ W, W = w2.alloc (.cells (rcV r p2) 41) := ⟨_, rfl⟩
 have EW := hid (show Below w2.heap.size w2 W by rw [hW]; exact ext_alloc (Below.refl _ _) _)
 have K5 := hid (show Blk W w2.heap.size (rcV r p2) 41 by rw [hW]; exact Blk.new _ _ _)
 have KMd := hid (KMc0.out.ext EW.out)
 have K2d := hid (K2c0.out.ext EW.out)
 have K1d := hid (K1c.out.ext EW.out)
 have HAW := hid (HF2.out.ext EW.out)
 have BW := hid (ext_trans B2.out EW.out)
 clear K1c KMc0 K2c0 HF2
 have k5 := K5.out
 have k2 := K2d.out
 have kM := KMd.out
 have cK := K1d.out.cell
 have cM := KMd.out.cell
 rw [hW] at k5 k2 kM cK cM
 cases hu : r.up
 case false =>
  have FIN := hid (show recTake r m l = r by unfold recTake; rw [if_pos hv, if_neg (by rw [hu]; simp)])
  go_wp2_with (first
   | ((with_reducible refine wpList_store_rec (rcV r p2) rfl ?_ ?_ ?_ ?_ ?_); (· rfl); (· rfl); (· rfl); (· simp [Value.oneCell']))
   | ((with_reducible refine wpList_load_rec w2.heap.size (rcV r p2) rfl ?_ ?_ ?_); (· rfl); (· exact k5))
   | ((with_reducible refine wpList_store_rec_at (w.heap.size + 1 + 1) zRc (rcV r p2) rfl rfl ?_ ?_ ?_ ?_ ?_); (· rfl); (· rfl); (· exact k2); (· simp [Value.oneCell'])))
  have hz := setRow_heap _ (w.heap.size + 1 + 1) _ (rcV r p2) _ _ k2
  refine ret_cell (ty := 41) Tryz.results7 (w.heap.size + 1 + 1) (rcV r p2) _ ?_ ?_ hz Tryz.underlying41 rfl (by kernel_rfl) ?_
  ·rfl
  ·rfl
  rw [FIN.out, ← hW]
  exact ⟨p2, X2, _, rfl, (HAW.out.far (by have := SZ1.out; omega) _).lower (by have := SZ1.out; omega), below_setRow' BW.out (by omega) _⟩
 have HU := hid hu
 go_wp2_with (first
  | ((with_reducible refine wpList_store_rec (rcV r p2) rfl ?_ ?_ ?_ ?_ ?_); (· rfl); (· rfl); (· rfl); (· simp [Value.oneCell']))
  | ((with_reducible refine wpList_load_msg_g (w.heap.size + 1) (msgV m (.slice al l.length cl)) rfl ?_ ?_ ?_ ?_); (· rfl); (· rfl); (· exact kM)))
 rw [← hW]
 clear hW k5 k2 kM cK cM
 refine (specMsgOk m r.of_ al l l.length cl _ rfl (by unfold maxLen; omega) HX.out (SL.out.ext BW.out)).mono ?_
 rintro e w3 ⟨rfl, hb3⟩
 have B3 := hid (ext_trans BW.out hb3)
 have SZ3 := hid (show w2.heap.size ≤ w3.heap.size from Nat.le_trans EW.out.size hb3.size)
 have K5b := hid (K5.out.ext hb3)
 have KMb := hid (KMd.out.ext hb3)
 have K2b := hid (K2d.out.ext hb3)
 have K1b := hid (K1d.out.ext hb3)
 have HAS3 := hid (HAW.out.ext hb3)
 clear hb3 K5 KMd K2d K1d HAW BW EW
 have k5 := K5b.out
 have k2 := K2b.out
 have kM := KMb.out
 have cK := K1b.out.cell
 have cM := KMb.out.cell
 cases hm : msgOkB m r.of_ l
 case false =>
  have FIN := hid (show recTake r m l = r by unfold recTake; rw [if_pos hv, if_neg (fun q => by rw [hm] at q; exact absurd q.2.1 (by simp))])
  go_wp2_with (first
   | ((with_reducible refine wpList_load_rec w2.heap.size (rcV r p2) rfl ?_ ?_ ?_); (· rfl); (· exact k5))
   | ((with_reducible refine wpList_store_rec_at (w.heap.size + 1 + 1) zRc (rcV r p2) rfl rfl ?_ ?_ ?_ ?_ ?_); (· rfl); (· rfl); (· exact k2); (· simp [Value.oneCell'])))
  have hz := setRow_heap _ (w.heap.size + 1 + 1) _ (rcV r p2) _ _ k2
  refine ret_cell (ty := 41) Tryz.results7 (w.heap.size + 1 + 1) (rcV r p2) _ ?_ ?_ hz Tryz.underlying41 rfl (by kernel_rfl) ?_
  ·rfl
  ·rfl
  rw [FIN.out]
  exact ⟨p2, X2, _, rfl, (HAS3.out.far (by have := SZ1.out; omega) _).lower (by have := SZ1.out; omega), below_setRow' B3.out (by omega) _⟩
 have HM := hid hm
 by_cases ht : m.t = r.num
 case neg =>
  have u1 : (m.t == r.num) = false := beq_false_of_ne ht
  have FIN := hid (show recTake r m l = r by unfold recTake; rw [if_pos hv, if_neg (fun q => ht q.2.2)])
  go_wp2_with (first
   | ((with_reducible refine wpList_load_rec w2.heap.size (rcV r p2) rfl ?_ ?_ ?_); (· rfl); (· exact k5))
   | ((with_reducible refine wpList_store_rec_at (w.heap.size + 1 + 1) zRc (rcV r p2) rfl rfl ?_ ?_ ?_ ?_ ?_); (· rfl); (· rfl); (· exact k2); (· simp [Value.oneCell'])))
  have hz := setRow_heap _ (w.heap.size + 1 + 1) _ (rcV r p2) _ _ k2
  refine ret_cell (ty := 41) Tryz.results7 (w.heap.size + 1 + 1) (rcV r p2) _ ?_ ?_ hz Tryz.underlying41 rfl (by kernel_rfl) ?_
  ·rfl
  ·rfl
  rw [FIN.out]
  exact ⟨p2, X2, _, rfl, (HAS3.out.far (by have := SZ1.out; omega) _).lower (by have := SZ1.out; omega), below_setRow' B3.out (by omega) _⟩
 have u1 : (m.t == r.num) = true := by rw [ht]; exact beq_self_eq_true _
 have HT := hid ht
 clear ht
 go_wp2_with fail
 have hK0 : RecTakeS w2.heap.size (w.heap.size + 1) (rcV r p2) (msgV m (.slice al l.length cl)) w3 := ⟨k5, kM⟩
 refine wp_region_last (S := RecTakeS w2.heap.size (w.heap.size + 1) (rcV r p2) (msgV m (.slice al l.length cl))) 5 (by kernel_rfl) hK0.drew (fun hHeld => ?_)
 simp only [qz, Nat.reduceAdd]
 clear hK0 k5 kM k2
 refine wpLast_take (i := 0) (v := .agg (rcV r p2)) (at_lit rfl) (by kernel_rfl) (by kernel_rfl) (by kernel_rfl) (by kernel_rfl) (fun _ _ _ h => h) (yields_rc (fun w9 hS => hS.blk) rfl (by rfl) _ rfl rfl) hHeld ?_
 try simp only [qq]
 refine wpLast_take (i := 1) (v := .agg (msgV m (.slice al l.length cl))) (at_lit rfl) (by kernel_rfl) (by kernel_rfl) (by kernel_rfl) (by kernel_rfl) (fun _ _ _ h => h) (yields_ms (fun w9 hS => hS.bm) rfl (by rfl) _ rfl rfl) hHeld ?_
 try simp only [qq]
 refine rdL 2 (by kernel_rfl) (at_lit rfl) (fun K hK => ?_)
 go_simp
 refine (l2Message_at m al l l.length cl w3.drew rfl HL.out.1 HL.out.2.1 HL.out.2.2 (SL.out.ext (show Below w.heap.size w w3.drew from ext_trans B3.out (Below.refl _ _).drew))).mono ?_
 rintro e v4 ⟨g4, c4, rfl, hg4, ow4, hb4⟩
 have E4 := hid (show Below w3.heap.size w3 v4 from (show Below w3.heap.size w3 w3.drew from (Below.refl _ _).drew).trans hb4)
 have Z4 := hid (RowC.mk (B := w3.heap.size) (col := fun _ => 0) (t := 0) ow4 (fun _ _ => rfl))
 clear ow4 hg4
 go_wp2_with fail
 refine hK.out _ _ ⟨K5b.out.ext E4.out, KMb.out.ext E4.out⟩ (fun hNew => ?_)
 clear hK K hHeld hb4
 have hHeld := hNew
 clear hNew
 try simp only [qq]
 refine rdL 3 (by kernel_rfl) (at_lit rfl) (fun K hK => ?_)
 go_simp
 refine (specTake w1.heap.size r p2 X2 (colF w2.heap.size col2) m (some ⟨g4, 0, none⟩) l c4 r.of_ v4 (Nat.le_trans SZ2.out (Nat.le_trans SZ3.out E4.out.size)) (valid_take hv HS.out) (VO.out) HM.out (Z4.out.slots GL.out) (HAS3.out.ext E4.out)).mono ?_
 obtain ⟨r5, hr5⟩ : ∃ x, x = takeR r m l := ⟨_, rfl⟩
 rw [← hr5]
 have S5 := hid (show RcSmall r5 by rw [hr5]; exact ((valid_sm hv HS.out).take (valid_take hv HS.out) HM.out).s)
 have FIN := hid (show recTake r m l = r5 by unfold recTake; rw [if_pos hv, if_pos ⟨HU.out, HM.out, HT.out⟩, hr5])
 clear hr5
 rintro e v5 ⟨p5, X5, c5, rfl, has5, hb5, ot5⟩
 have H5 := hid has5
 have B5 := hid hb5
 have K5c := hid (show Blk v5 w2.heap.size (rcV r p2) 41 from (ot5 _ (K5b.out.ext E4.out).lt (by rw [colF_new (Nat.le_refl _)]; omega)).1.trans (K5b.out.ext E4.out))
 have KMc := hid ((KMb.out.ext E4.out).below hb5 (by have := SZ1.out; omega))
 have K2c := hid ((K2b.out.ext E4.out).below hb5 SZ1.out)
 clear has5 hb5 ot5
 go_wp2_with fail
 refine hK.out _ _ ⟨K5c.out, KMc.out⟩ (fun hNew => ?_)
 clear hK K hHeld
 have hHeld := hNew
 clear hNew
 try simp only [qq]
 refine rdL 4 (by kernel_rfl) (at_lit rfl) (fun K hK => ?_)
 go_simp
 refine (specCopy w1.heap.size r5 p5 X5 c5 v5 S5.out H5.out).mono ?_
 rintro e v6 ⟨p6, X6, c6, rfl, has6, hb6⟩
 have H6 := hid has6
 have B6 := hid (show Below w.heap.size w v6 from ext_trans ((ext_trans B3.out E4.out).trans (B5.out.mono (by have := SZ1.out; omega))) hb6)
 have k6 := K2c.out.ext hb6
 have SV5 := hid (show w1.heap.size ≤ v5.heap.size from Nat.le_trans SZ2.out (Nat.le_trans SZ3.out (Nat.le_trans E4.out.size B5.out.size)))
 go_wp2_with fail
 refine hK.out _ _ ⟨K5c.out.ext hb6, KMc.out.ext hb6⟩ (fun _ => ?_)
 clear hK K hHeld has6 hb6
 try simp only [qq]
 refine wpLast_end (by kernel_rfl) (at_lit rfl) (by kernel_rfl) (fun K hK => ?_)
 rw [if_pos (by rfl)]
 refine wp_store_row 41 _ _ rfl (w.heap.size + 1 + 1) (rcV r5 p6) rfl rfl 41 zRc k6 (by kernel_rfl) rfl (by simp [Value.oneCell']) ?_
 refine hK.out _ _ ?_
 clear hK K
 go_wp2_with fail
 have hz := setRow_heap _ (w.heap.size + 1 + 1) _ (rcV r5 p6) _ _ k6
 refine ret_cell (ty := 41) Tryz.results7 (w.heap.size + 1 + 1) (rcV r5 p6) _ ?_ ?_ hz Tryz.underlying41 rfl (by kernel_rfl) ?_
 ·rfl
 ·rfl
 rw [FIN.out]
 exact ⟨p6, X6, _, rfl, (H6.out.far (by have := SZ1.out; have := SV5.out; omega) _).lower (by have := SZ1.out; have := SV5.out; omega), below_setRow' B6.out (by omega) _⟩
end Go.Proofs.YtffklmlljekceaaGreat
