import Derived.Test.YtjdceoimignnpaaQ28
import Derived.Test.YtjdceoimignnpaaQ27
namespace Go.Proofs.Ytjdceoimignnpaa
open Go.ChangeShapes Go.WideShapes Go.ChangeAt Go.RowKit next
set_option linter.unusedVariables false
set_option linter.unusedSimpArgs false
set_option maxHeartbeats 16000000
set_option maxRecDepth 20000
variable {k p : Int} {a b l : List Sl} {g i : Nat} {r : Rc} {s : Sl}
theorem wpList_load_msg_g {ops : Array Oper} {rest : List Oper} {dst : Option Tmp} {x : Operand} {τ : TypeId} {pos : String} {after : Array Edge} {gd : Option (Nat × Bool)} {a : Act} {w : World} {Q : Exit → Act → World → Prop}
  (g : Nat) (cs : Array Value) (hs : cs.size = 8) (hw : Region.wanted { dst := dst, op := .load 49 x, type := τ, pos := pos, after := after, guard := gd } (yielded ops a.tmps) = true) (hx : a.eval x = .pointer (some ⟨g, 0, none⟩)) (hg : Blk w g cs 49)
  (h : wpList Try.prog ops Q rest (a.put dst (.agg cs)) w) :
  wpList Try.prog ops Q ({ dst := dst, op := .load 49 x, type := τ, pos := pos, after := after, guard := gd } :: rest) a w :=
 wpList_step fun K hK => by
  rw [if_pos hw];exact wp_load_row (o := { dst := dst, op := .load 49 x, type := τ, pos := pos, after := after, guard := gd }) 49 x rfl g hx 49 cs (0, 0) _ hg Try.underlying49 rfl (by rw [hs]; kernel_rfl) (hK _ _ h)
def recTake (r : Rc) (m : MsgH) (l : List Sl) : Rc := if validB r = true then (if r.up = true ∧ msgOkB m r.of_ l = true ∧ m.t = r.num then takeR r m l else r) else rc0
theorem yields_ms {S : World → Prop} {ops : Array Oper} {o : Oper} {a : Act} {cs : Array Value} (hb : ∀ w, S w → Blk w g cs 49) (hs : cs.size = 8) (hw : Region.wanted o (yielded ops a.tmps) = true) (x : Operand) (ho : o.op = .load 49 x) (hx : a.eval x = .pointer (some ⟨g, 0, none⟩)) :
  YieldsIf Try.prog ops S o (.agg cs) a :=
 .inl ⟨hw, fun w hS => by
  unfold execOp
  simp only [ho, hx, Instr.loadAt, Instr.sureAddr, Sem.run_bind, Sem.run_pure, Result.andThen_ok, run_loadVar_row w g 49 49 cs (0, 0) _ (hb w hS) Try.underlying49 rfl (by rw [hs]; kernel_rfl)]⟩
structure RecTakeS (g h : Nat) (c cm : Array Value) (w' : World) : Prop where
 blk : Blk w' g c 31
 bm : Blk w' h cm 49
theorem RecTakeS.drew {h : Nat} {c cm : Array Value} {w' : World} (k : RecTakeS g h c cm w') : RecTakeS g h c cm w'.drew := ⟨k.blk, k.bm⟩
theorem specRecTake (B : Nat) (r : Rc) (p : RcP) (X : RcX) (col : Nat → Nat) (m : MsgH) (al : Option Addr) (l : List Sl) (cl : Nat) (w : World) (hS : RcSmall r) (hl : l.length ≤ 1048576) (hac : al = none → cl = 0) (hsp : ∀ x, al = some x → x.spot = none) (hx : m.x.size ≤ maxLen) (hsl : SlotsAt w al l) (h : RcHas B w r p X col) :
  Calls Try.prog 100 #[.agg (rcV r p), .agg (msgV m (.slice al l.length cl))] w (APost w (recTake r m l)) := by
 have RD := hid h;have HS := hid hS;have HL := hid (show l.length ≤ 1048576 ∧ (al = none → cl = 0) ∧ (∀ x, al = some x → x.spot = none) from ⟨hl, hac, hsp⟩);have SL := hid hsl;have HX := hid hx;have GL := hid hsl.good;clear h hS hac hsp hx hsl;obtain ⟨V, hV⟩ : ∃ V, V = ((w.alloc (.cells (rcV r p) 31)).alloc (.cells (msgV m (.slice al l.length cl)) 49)).alloc (.cells zRc 31) := ⟨_, rfl⟩
 have BV := hid (show Below w.heap.size w V by rw [hV]; exact ext_alloc (ext_alloc (ext_alloc (Below.refl _ _) _) _) _);have K1 := hid (show Blk V w.heap.size (rcV r p) 31 by rw [hV]; exact ((Blk.new _ _ _).alloc _).alloc _);have KM := hid (show Blk V (w.heap.size + 1) (msgV m (.slice al l.length cl)) 49 by rw [hV]; exact (Blk.new' _ _ (by simp)).alloc _);have K2 := hid (show Blk V (w.heap.size + 1 + 1) zRc 31 by rw [hV]; exact Blk.new' _ _ (by simp));have k1 := K1.out;rw [hV] at k1;go_enter Try.func100, Try.ntmps100;go_wp2_with ((with_reducible refine wpList_load_rec w.heap.size (rcV r p) rfl ?_ ?_ ?_); (· rfl); (· exact k1));rw [← hV];clear hV k1;refine (specValid r p _ HS.out (RD.out.ext BV.out).at).mono ?_;rintro e w1 ⟨rfl, hb1⟩;have B1 := hid (ext_trans BV.out hb1);have k1 := K1.out.ext hb1;have k2 := K2.out.ext hb1;have K1b := hid k1;have KMb := hid (KM.out.ext hb1);have K2b := hid k2;have SZ1 := hid (show w.heap.size + 1 + 1 < w1.heap.size from k2.lt);clear hb1 K1 K2 KM BV;cases hv : validB r
 case false =>
  have HN := hid (show recTake r m l = rc0 by unfold recTake; rw [hv]; rfl)
  go_wp2_with (first
   | ((with_reducible refine wpList_build_to (ty := 31) zRc ?_ ?_); (· kernel_rfl))
   | ((with_reducible refine wpList_store_rec_at (w.heap.size + 1 + 1) zRc zRc rfl rfl ?_ ?_ ?_ ?_ ?_); (· rfl); (· rfl); (· exact k2); (· simp [Value.oneCell'])))
  have hz := setRow_heap _ (w.heap.size + 1 + 1) _ zRc _ _ k2;refine ret_cell (ty := 31) Try.results100 (w.heap.size + 1 + 1) zRc _ ?_ ?_ hz Try.underlying31 rfl (by kernel_rfl) ?_
  ·rfl
  ·rfl
  rw [HN.out];exact ⟨rp0, ⟨[], []⟩, fun _ => 0, rfl, rc0_has _ _ _, below_setRow' B1.out (by omega) _⟩
 have VO := hid (show r.of_ ≤ 5 by
  have h9 := hv;unfold validB at h9;simp only [Bool.and_eq_true] at h9
  exact (inB_iff.1 h9.1.1.1.1.1.1.1.1.1.1.1.1).2)
 go_wp2_with ((with_reducible refine wpList_load_rec w.heap.size (rcV r p) rfl ?_ ?_ ?_); (· rfl); (· exact k1));refine (specCopy B r p X col _ HS.out (RD.out.ext B1.out)).mono ?_;rintro e w2 ⟨p2, X2, col2, rfl, has2, hb2⟩;have B2 := hid (ext_trans B1.out hb2);have SZ2 := hid (show w1.heap.size ≤ w2.heap.size from hb2.size);have K1c := hid (K1b.out.ext hb2);have KMc0 := hid (KMb.out.ext hb2);have K2c0 := hid (K2b.out.ext hb2);have HF2 := hid has2.fresh;clear has2 hb2 k1 k2 K1b KMb K2b;obtain ⟨W, hW⟩ : ∃ W, W = w2.alloc (.cells (rcV r p2) 31) := ⟨_, rfl⟩
 have EW := hid (show Below w2.heap.size w2 W by rw [hW]; exact ext_alloc (Below.refl _ _) _);have K5 := hid (show Blk W w2.heap.size (rcV r p2) 31 by rw [hW]; exact Blk.new _ _ _);have KMd := hid (KMc0.out.ext EW.out);have K2d := hid (K2c0.out.ext EW.out);have K1d := hid (K1c.out.ext EW.out);have HAW := hid (HF2.out.ext EW.out);have BW := hid (ext_trans B2.out EW.out);clear K1c KMc0 K2c0 HF2;have k5 := K5.out;have k2 := K2d.out;have kM := KMd.out;have cK := K1d.out.cell;have cM := KMd.out.cell;rw [hW] at k5 k2 kM cK cM;cases hu : r.up
 case false =>
  have FIN := hid (show recTake r m l = r by unfold recTake; rw [if_pos hv, if_neg (by rw [hu]; simp)])
  go_wp2_with (first
   | ((with_reducible refine wpList_store_rec (rcV r p2) rfl ?_ ?_ ?_ ?_ ?_); (· rfl); (· rfl); (· rfl); (· simp [Value.oneCell']))
   | ((with_reducible refine wpList_load_rec w2.heap.size (rcV r p2) rfl ?_ ?_ ?_); (· rfl); (· exact k5))
   | ((with_reducible refine wpList_store_rec_at (w.heap.size + 1 + 1) zRc (rcV r p2) rfl rfl ?_ ?_ ?_ ?_ ?_); (· rfl); (· rfl); (· exact k2); (· simp [Value.oneCell'])))
  have hz := setRow_heap _ (w.heap.size + 1 + 1) _ (rcV r p2) _ _ k2;refine ret_cell (ty := 31) Try.results100 (w.heap.size + 1 + 1) (rcV r p2) _ ?_ ?_ hz Try.underlying31 rfl (by kernel_rfl) ?_
  ·rfl
  ·rfl
  rw [FIN.out, ← hW];exact ⟨p2, X2, _, rfl, (HAW.out.far (by have := SZ1.out; omega) _).lower (by have := SZ1.out; omega), below_setRow' BW.out (by omega) _⟩
 have HU := hid hu
 go_wp2_with (first
  | ((with_reducible refine wpList_store_rec (rcV r p2) rfl ?_ ?_ ?_ ?_ ?_); (· rfl); (· rfl); (· rfl); (· simp [Value.oneCell']))
  | ((with_reducible refine wpList_load_msg_g (w.heap.size + 1) (msgV m (.slice al l.length cl)) rfl ?_ ?_ ?_ ?_); (· rfl); (· rfl); (· exact kM)))
 rw [← hW];clear hW k5 k2 kM cK cM;refine (specMsgOk m r.of_ al l l.length cl _ rfl (by unfold maxLen; omega) HX.out (SL.out.ext BW.out)).mono ?_;rintro e w3 ⟨rfl, hb3⟩;have B3 := hid (ext_trans BW.out hb3);have SZ3 := hid (show w2.heap.size ≤ w3.heap.size from Nat.le_trans EW.out.size hb3.size);have K5b := hid (K5.out.ext hb3);have KMb := hid (KMd.out.ext hb3);have K2b := hid (K2d.out.ext hb3);have K1b := hid (K1d.out.ext hb3);have HAS3 := hid (HAW.out.ext hb3);clear hb3 K5 KMd K2d K1d HAW BW EW;have k5 := K5b.out;have k2 := K2b.out;have kM := KMb.out;have cK := K1b.out.cell;have cM := KMb.out.cell;cases hm : msgOkB m r.of_ l
 case false =>
  have FIN := hid (show recTake r m l = r by unfold recTake; rw [if_pos hv, if_neg (fun q => by rw [hm] at q; exact absurd q.2.1 (by simp))])
  go_wp2_with (first
   | ((with_reducible refine wpList_load_rec w2.heap.size (rcV r p2) rfl ?_ ?_ ?_); (· rfl); (· exact k5))
   | ((with_reducible refine wpList_store_rec_at (w.heap.size + 1 + 1) zRc (rcV r p2) rfl rfl ?_ ?_ ?_ ?_ ?_); (· rfl); (· rfl); (· exact k2); (· simp [Value.oneCell'])))
  have hz := setRow_heap _ (w.heap.size + 1 + 1) _ (rcV r p2) _ _ k2;refine ret_cell (ty := 31) Try.results100 (w.heap.size + 1 + 1) (rcV r p2) _ ?_ ?_ hz Try.underlying31 rfl (by kernel_rfl) ?_
  ·rfl
  ·rfl
  rw [FIN.out];exact ⟨p2, X2, _, rfl, (HAS3.out.far (by have := SZ1.out; omega) _).lower (by have := SZ1.out; omega), below_setRow' B3.out (by omega) _⟩
 have HM := hid hm;by_cases ht : m.t = r.num;case neg =>
  have u1 : (m.t == r.num) = false := beq_false_of_ne ht;have FIN := hid (show recTake r m l = r by unfold recTake; rw [if_pos hv, if_neg (fun q => ht q.2.2)])
  go_wp2_with (first
   | ((with_reducible refine wpList_load_rec w2.heap.size (rcV r p2) rfl ?_ ?_ ?_); (· rfl); (· exact k5))
   | ((with_reducible refine wpList_store_rec_at (w.heap.size + 1 + 1) zRc (rcV r p2) rfl rfl ?_ ?_ ?_ ?_ ?_); (· rfl); (· rfl); (· exact k2); (· simp [Value.oneCell'])))
  have hz := setRow_heap _ (w.heap.size + 1 + 1) _ (rcV r p2) _ _ k2;refine ret_cell (ty := 31) Try.results100 (w.heap.size + 1 + 1) (rcV r p2) _ ?_ ?_ hz Try.underlying31 rfl (by kernel_rfl) ?_
  ·rfl
  ·rfl
  rw [FIN.out];exact ⟨p2, X2, _, rfl, (HAS3.out.far (by have := SZ1.out; omega) _).lower (by have := SZ1.out; omega), below_setRow' B3.out (by omega) _⟩
 have u1 : (m.t == r.num) = true := by rw [ht]; exact beq_self_eq_true _
 have HT := hid ht;clear ht;go_wp2_with fail;have hK0 : RecTakeS w2.heap.size (w.heap.size + 1) (rcV r p2) (msgV m (.slice al l.length cl)) w3 := ⟨k5, kM⟩
 refine wp_region_last (S := RecTakeS w2.heap.size (w.heap.size + 1) (rcV r p2) (msgV m (.slice al l.length cl))) 5 (by kernel_rfl) hK0.drew (fun hHeld => ?_);simp only [qz, Nat.reduceAdd];clear hK0 k5 kM k2;refine wpLast_take (i := 0) (v := .agg (rcV r p2)) (at_lit rfl) (by kernel_rfl) (by kernel_rfl) (by kernel_rfl) (by kernel_rfl) (fun _ _ _ h => h) (yields_rc (fun w9 hS => hS.blk) rfl (by rfl) _ rfl rfl) hHeld ?_;try simp only [qq]
 refine wpLast_take (i := 1) (v := .agg (msgV m (.slice al l.length cl))) (at_lit rfl) (by kernel_rfl) (by kernel_rfl) (by kernel_rfl) (by kernel_rfl) (fun _ _ _ h => h) (yields_ms (fun w9 hS => hS.bm) rfl (by rfl) _ rfl rfl) hHeld ?_;try simp only [qq]
 refine rdL 2 (by kernel_rfl) (at_lit rfl) (fun K hK => ?_);go_simp;refine (l2Message_at m al l l.length cl w3.drew rfl HL.out.1 HL.out.2.1 HL.out.2.2 (SL.out.ext (show Below w.heap.size w w3.drew from ext_trans B3.out (Below.refl _ _).drew))).mono ?_;rintro e v4 ⟨g4, c4, rfl, hg4, ow4, hb4⟩;have E4 := hid (show Below w3.heap.size w3 v4 from (show Below w3.heap.size w3 w3.drew from (Below.refl _ _).drew).trans hb4);have Z4 := hid (RowC.mk (B := w3.heap.size) (col := fun _ => 0) (t := 0) ow4 (fun _ _ => rfl));clear ow4 hg4;go_wp2_with fail;refine hK.out _ _ ⟨K5b.out.ext E4.out, KMb.out.ext E4.out⟩ (fun hNew => ?_);clear hK K hHeld hb4;have hHeld := hNew;clear hNew;try simp only [qq]
 refine rdL 3 (by kernel_rfl) (at_lit rfl) (fun K hK => ?_);go_simp;refine (specTake w1.heap.size r p2 X2 (colF w2.heap.size col2) m (some ⟨g4, 0, none⟩) l c4 r.of_ v4 (Nat.le_trans SZ2.out (Nat.le_trans SZ3.out E4.out.size)) (valid_take hv HS.out) (VO.out) HM.out (Z4.out.slots GL.out) (HAS3.out.ext E4.out)).mono ?_;obtain ⟨r5, hr5⟩ : ∃ x, x = takeR r m l := ⟨_, rfl⟩
 rw [← hr5];have S5 := hid (show RcSmall r5 by rw [hr5]; exact ((valid_sm hv HS.out).take (valid_take hv HS.out) HM.out).s);have FIN := hid (show recTake r m l = r5 by unfold recTake; rw [if_pos hv, if_pos ⟨HU.out, HM.out, HT.out⟩, hr5]);clear hr5;rintro e v5 ⟨p5, X5, c5, rfl, has5, hb5, ot5⟩;have H5 := hid has5;have B5 := hid hb5;have K5c := hid (show Blk v5 w2.heap.size (rcV r p2) 31 from (ot5 _ (K5b.out.ext E4.out).lt (by rw [colF_new (Nat.le_refl _)]; omega)).1.trans (K5b.out.ext E4.out));have KMc := hid ((KMb.out.ext E4.out).below hb5 (by have := SZ1.out; omega));have K2c := hid ((K2b.out.ext E4.out).below hb5 SZ1.out);clear has5 hb5 ot5;go_wp2_with fail;refine hK.out _ _ ⟨K5c.out, KMc.out⟩ ?_;clear hK K hHeld;intro hHeld;try simp only [qq]
 refine rdL 4 (by kernel_rfl) (at_lit rfl) (fun K hK => ?_);go_simp;refine (specCopy w1.heap.size r5 p5 X5 c5 v5 S5.out H5.out).mono ?_;rintro e v6 ⟨p6, X6, c6, rfl, has6, hb6⟩;have H6 := hid has6;have B6 := hid (show Below w.heap.size w v6 from ext_trans ((ext_trans B3.out E4.out).trans (B5.out.mono (by have := SZ1.out; omega))) hb6);have k6 := K2c.out.ext hb6;have SV5 := hid (show w1.heap.size ≤ v5.heap.size from Nat.le_trans SZ2.out (Nat.le_trans SZ3.out (Nat.le_trans E4.out.size B5.out.size)));go_wp2_with fail;refine hK.out _ _ ⟨K5c.out.ext hb6, KMc.out.ext hb6⟩ (fun _ => ?_);clear hK K hHeld has6 hb6;try simp only [qq]
 refine wpLast_end (by kernel_rfl) (at_lit rfl) (by kernel_rfl) (fun K hK => ?_);rw [if_pos (by rfl)];refine wp_store_row 31 _ _ rfl (w.heap.size + 1 + 1) (rcV r5 p6) rfl rfl 31 zRc k6 (by kernel_rfl) rfl (by simp [Value.oneCell']) ?_;refine hK.out _ _ ?_;clear hK K;go_wp2_with fail;have hz := setRow_heap _ (w.heap.size + 1 + 1) _ (rcV r5 p6) _ _ k6;refine ret_cell (ty := 31) Try.results100 (w.heap.size + 1 + 1) (rcV r5 p6) _ ?_ ?_ hz Try.underlying31 rfl (by kernel_rfl) ?_
 ·rfl
 ·rfl
 rw [FIN.out];exact ⟨p6, X6, _, rfl, (H6.out.far (by have := SZ1.out; have := SV5.out; omega) _).lower (by have := SZ1.out; have := SV5.out; omega), below_setRow' B6.out (by omega) _⟩
theorem nok_nil (h : Int) : NOk h [] := ⟨fun x hx => absurd hx (by simp), List.Pairwise.nil⟩
theorem lok_nil : LOk [] := ⟨by simp, fun s hs => absurd hs (by simp)⟩
theorem aok_nil (o : Int) : AOk o [] := ⟨fun a ha => absurd ha (by simp), List.Pairwise.nil, fun a ha => absurd ha (by simp)⟩
theorem sok_zero : SOk (0, ⟨#[]⟩) := ⟨by simp, by simp, Nat.zero_le _, fun _ => by rw [ByteArray.toList_eq]; rfl⟩
theorem VR.calm (v : VR r) : VR (calmR r) :=
 ⟨v.o1, v.o5, v.n1, v.nn, v.s, v.d, v.h, v.w, v.e0, v.e1, nok_nil _, lok_nil, aok_nil _, fun q => by simp [calmR] at q, fun q => by simp [calmR] at q, fun _ q => by simp [calmR] at q, fun _ _ => ⟨rfl, rfl, rfl, rfl⟩, by
  rcases v.up with h | ⟨h1, h2, h3, h4, h5⟩
  ·exact .inl h
  ·exact .inr ⟨rfl, rfl, h3, h4, h5⟩⟩
theorem DOk.more {q : Int} (h : DOk p k l) (hq : p ≤ q) (h1 : q ≤ 1000000) : DOk q k l := ⟨by have := h.p0; omega, h1, h.k0, h.k1, h.lk, fun s hs => by have := h.b s hs; omega, h.z⟩
theorem VR.prom_ (v : VR r) {b : Int} (h0 : r.dp ≤ b) (h1 : b ≤ 1000000) : VR { r with dp := b } :=
 ⟨v.o1, v.o5, v.n1, v.nn, v.s, v.d.more h0 h1, v.h, v.w, v.e0, v.e1, v.y, v.b, v.a, v.lt, fun q => by have := v.ld q; exact ⟨⟨this.1.1, by show r.ball ≤ b; have := this.1.2; omega⟩, this.2⟩, fun q1 q2 => by have := v.tr q1 q2; exact ⟨⟨this.1.1, by show r.ball ≤ b; have := this.1.2; omega⟩, this.2⟩, v.cl, v.up⟩
theorem VR.rise (v : VR r) {b : Int} (h1 : b ≤ 1000000) : VR (riseR r b) := by
 unfold riseR;split
 ·exact v.prom_ (by omega) h1
 ·exact v
theorem VR.hush (v : VR r) : VR (hush r) :=
 ⟨v.o1, v.o5, v.n1, v.nn, v.s, v.d, v.h, v.w, by show (0 : Int) ≤ 0; omega, by show (0 : Int) ≤ 1000000; omega, v.y, v.b, v.a, v.lt, v.ld, v.tr, v.cl, by
  rcases v.up with h | ⟨h1, h2, h3, h4, h5⟩
  ·exact .inl h
  ·exact .inr ⟨h1, h2, h3, h4, rfl⟩⟩
theorem VR.follow (v : VR r) {b : Int} (h1 : b ≤ 1000000) : VR (followR r b) := by
 unfold followR;split
 ·exact (v.rise h1).hush
 ·exact (v.rise h1).calm.hush
theorem follow_keep (r : Rc) (b : Int) : (followR r b).num = r.num ∧ (followR r b).of_ = r.of_ ∧ (followR r b).up = r.up ∧ (followR r b).dk = r.dk ∧ (followR r b).ds = r.ds ∧ (followR r b).wish = r.wish ∧ r.dp ≤ (followR r b).dp ∧ b ≤ (followR r b).dp := by
 unfold followR hush riseR calmR;split
 ·simp only []; split <;> simp <;> omega
 ·simp only []; split <;> simp <;> omega
theorem VR.hold (v : VR r) (hu : r.up = true) {m : MsgH} {l : List Sl} (hm : msgOkB { m with f := r.num } r.of_ l = true) : VR (holdR r m l) := by
 unfold holdR;split
 ·rename_i hl;refine ⟨v.o1, v.o5, v.n1, v.nn, v.s, v.d, ⟨?_, fun q hq => ?_⟩, v.w, v.e0, v.e1, v.y, v.b, v.a, v.lt, v.ld, v.tr, v.cl, .inl hu⟩
  ·show (r.held ++ [({ m with f := r.num }, l)]).length ≤ 400;simp; omega
  ·rcases List.mem_append.1 hq with hq | hq
   ·exact v.h.m q hq
   ·simp only [List.mem_cons, List.not_mem_nil, or_false] at hq;rw [hq]; exact ⟨rfl, hm⟩
 ·exact v
theorem hold_keep2 (r : Rc) (m : MsgH) (l : List Sl) : (holdR r m l).num = r.num ∧ (holdR r m l).of_ = r.of_ ∧ (holdR r m l).up = r.up ∧ (holdR r m l).dk = r.dk ∧ (holdR r m l).ds = r.ds ∧ (holdR r m l).wish = r.wish ∧ (holdR r m l).dp = r.dp ∧ (holdR r m l).ball = r.ball ∧ (holdR r m l).lead = r.lead := by
 unfold holdR;split <;> simp
theorem setL_mem {x : Sl} (h : x ∈ setL l i s) : x ∈ l ∨ x = s ∨ x = (0, ⟨#[]⟩) := by
 unfold setL padL at h;rcases List.mem_or_eq_of_mem_set h with h | h
 ·rcases List.mem_append.1 h with h | h
  ·exact .inl h
  ·exact .inr (.inr (List.eq_of_mem_replicate h))
 ·exact .inr (.inl h)
theorem setL_old {j : Nat} (hj : j < l.length) (hij : j + 1 ≠ i) (hi : 1 ≤ i) : (setL l i s)[j]? = l[j]? := by
 unfold setL padL;rw [List.getElem?_set_ne (by omega), List.getElem?_append_left hj]
theorem setL_new (hi : 1 ≤ i) : (setL l i s)[i - 1]? = some s := by
 unfold setL padL;rw [List.getElem?_set_self];simp; omega
theorem DOk.set (h : DOk p k l) {i : Nat} {s : Sl} (hk : k < i) (hi : i ≤ 60) (hs : SOk s) (hp : s.1 ≤ p) : DOk p k (setL l i s) := by
 have k0 := h.k0;have hl := setL_len l i s;refine ⟨h.p0, h.p1, h.k0, by rw [hl]; have := h.k1; omega, ⟨by rw [hl]; have := h.lk.n; omega, fun x hx => ?_⟩, fun x hx => ?_, fun j x hx hj => ?_⟩
 ·rcases setL_mem hx with hx | rfl | rfl
  ·exact h.lk.s x hx
  ·exact hs
  ·exact sok_zero
 ·rcases setL_mem hx with hx | rfl | rfl
  ·exact h.b x hx
  ·exact hp
  ·exact h.p0
 ·have := h.k1;rw [setL_old (by omega) (by omega) (by omega)] at hx;exact h.z j x hx hj
theorem VR.ds_ (v : VR r) {d : Int} {l : List Sl} (h : DOk r.dp d l) : VR { r with dk := d, ds := l } :=
 ⟨v.o1, v.o5, v.n1, v.nn, v.s, h, v.h, v.w, v.e0, v.e1, v.y, v.b, v.a, v.lt, v.ld, v.tr, v.cl, v.up⟩
theorem VR.set (v : VR r) {i : Nat} {s : Sl} (hk : r.dk < i) (hi : i ≤ 60) (hs : SOk s) (hp : s.1 ≤ r.dp) : VR (setR r i s) := v.ds_ (v.d.set hk hi hs hp)
theorem DOk.at {d : Int} (h : DOk p k l) (h0 : 0 ≤ d) (h1 : d ≤ l.length) (hz : ∀ (i : Nat) s, l[i]? = some s → (i : Int) < d → s.1 ≠ 0) : DOk p d l := ⟨h.p0, h.p1, h0, h1, h.lk, h.b, hz⟩
theorem addL_nok {h : Int} {l : List Int} {n : Int} (v : NOk h l) (h1 : 1 ≤ n) (h2 : n ≤ h) : NOk h (addL l n) := by
 refine ⟨fun x hx => ?_, addL_pair l n v.p⟩;rcases addL_mem l n x hx with hx | rfl
 ·exact v.r x hx
 ·exact ⟨h1, h2⟩
theorem ackL_aok {o : Int} {l : List Ak} {i f : Int} (v : AOk o l) (i1 : 1 ≤ i) (i2 : i ≤ 60) (f1 : 1 ≤ f) (f2 : f ≤ o) : AOk o (ackL l i f) := by
 refine ⟨fun x hx => ?_, ackL_pair l i f v.p, fun x hx => ?_⟩
 ·rcases ackL_mem l i f x hx with hx | ⟨z, hz, _, rfl⟩ | rfl
  ·exact v.r x hx
  ·exact v.r z hz
  ·exact ⟨i1, i2⟩
 ·rcases ackL_mem l i f x hx with hx | ⟨z, hz, _, rfl⟩ | rfl
  ·exact v.f x hx
  ·exact addL_nok (v.f z hz) f1 f2
  ·exact ⟨fun y hy => by simp only [List.mem_singleton] at hy; rw [hy]; exact ⟨f1, f2⟩, by simp⟩
def AdvZ (l : List Sl) (d : Int) : Prop := 0 ≤ d ∧ d ≤ l.length ∧ ∀ (i : Nat) s, l[i]? = some s → (i : Int) < d → s.1 ≠ 0
theorem advK_z (hb : 1 ≤ r.ball) : ∀ (l : List Ak) (d : Int), AdvZ r.ds d → AdvZ r.ds (advK r l d)
 | [], d, h => h
 | a :: l, d, h => by
  show AdvZ r.ds (advK r l (if advB r d a = true then a.1 else d));refine advK_z hb l _ ?_;split
  ·rename_i ha;unfold advB at ha;simp only [Bool.and_eq_true, decide_eq_true_eq] at ha;obtain ⟨h1, _, h3⟩ := ha;have hlt := isOfB_lt h3;unfold isOfB at h3;obtain ⟨k0, k1, kz⟩ := h;refine ⟨by omega, by omega, fun i s hs hi => ?_⟩;by_cases hi2 : (i : Int) < d
   ·exact kz i s hs hi2
   ·have e : i = d.toNat := by omega
    rw [← e, hs] at h3;simp only [decide_eq_true_eq, beq_iff_eq] at h3;omega
  ·exact h
theorem VR.ack (v : VR r) (hl : r.lead = true) {i f : Int} (i1 : 1 ≤ i) (i2 : i ≤ 60) (f1 : 1 ≤ f) (f2 : f ≤ r.of_) : VR (ackR r i f) := by
 have hb := (v.ld hl).1.1;have hz := advK_z (r := { r with acks := ackL r.acks i f }) hb (ackL r.acks i f) r.dk ⟨v.d.k0, v.d.k1, v.d.z⟩;have hd : DOk r.dp (advK { r with acks := ackL r.acks i f } (ackL r.acks i f) r.dk) r.ds := v.d.at hz.1 hz.2.1 hz.2.2;unfold ackR advR
 exact ⟨v.o1, v.o5, v.n1, v.nn, v.s, hd, v.h, v.w, v.e0, v.e1, v.y, v.b, ackL_aok v.a i1 i2 f1 f2, v.lt, v.ld, fun q => by rw [hl] at q; simp at q, fun q => by rw [hl] at q; simp at q, by
  rcases v.up with h | ⟨h1, _⟩
  ·exact .inl h
  ·rw [hl] at h1; simp at h1⟩
theorem pickS_of (ha : ∀ s ∈ a, SOk s) (hb : ∀ s ∈ b, SOk s) : SOk (pickS a b i) := by
 unfold pickS;split
 ·rename_i x y hx hy;split
  ·exact hb _ (List.mem_of_getElem? hy)
  ·exact ha _ (List.mem_of_getElem? hx)
 ·rename_i x hx hy;exact ha _ (List.mem_of_getElem? hx)
 ·rename_i y hx hy;exact hb _ (List.mem_of_getElem? hy)
 ·exact sok_zero
theorem merge_lok (ha : LOk a) (hb : LOk b) : LOk (mergeL a b) := by
 refine ⟨by rw [mergeL_len]; have := ha.n; have := hb.n; omega, fun s hs => ?_⟩;unfold mergeL at hs;obtain ⟨i, _, rfl⟩ := List.mem_map.1 hs;exact pickS_of ha.s hb.s
theorem leadL_dok {b : Int} (hb0 : 1 ≤ b) (hb : b ≤ p) : ∀ (t : List Sl) (i : Nat) (l : List Sl), DOk p k l → k ≤ i → i + t.length ≤ 60 → (∀ s ∈ t, s.2.size ≤ 100) → DOk p k (leadL b t i l)
 | [], i, l, h, _, _, _ => h
 | s :: t, i, l, h, hk, hi, ht => by
  have hp := h.p1;simp only [List.length_cons] at hi;unfold leadL;refine leadL_dok hb0 hb t (i + 1) _ (h.set (by omega) (by omega) ⟨by show 0 ≤ b; omega, by show b ≤ 1000000; omega, ht s (by simp), fun q => by have : b = 0 := q; omega⟩ hb) (by omega) (by omega) (fun x hx => ht x (by simp [hx]))
theorem VR.prom (v : VR r) (hu : r.up = true) (ht : r.tr = true) {f : Int} {l : List Sl} (f1 : 1 ≤ f) (f2 : f ≤ r.of_) (hl : LOk l) : VR (promR r f l) := by
 have hld : r.lead = false := by
  cases h : r.lead
  ·rfl
  ·exact absurd ⟨h, ht⟩ v.lt
 have hq := v.tr hld ht;have hm := merge_lok v.b hl;unfold promR;split
 ·exact ⟨v.o1, v.o5, v.n1, v.nn, v.s, v.d, v.h, v.w, v.e0, v.e1, addL_nok v.y f1 f2, hm, v.a, v.lt, fun q => by have q' : r.lead = true := q; rw [hld] at q'; simp at q', fun _ _ => hq, fun _ q => by have q' : r.tr = false := q; rw [ht] at q'; simp at q', .inl hu⟩
 ·have h0 := v.d.k0;have hd : DOk r.dp r.dk (leadDs r (mergeL r.best l)) := by
   unfold leadDs;refine leadL_dok hq.1.1 hq.1.2 _ _ _ v.d (by omega) ?_ (fun s hs => (hm.s s (List.mem_of_mem_drop hs)).t);rw [List.length_drop];have := hm.n;have := v.d.k1;have := v.d.lk.n;omega
  exact ⟨v.o1, v.o5, v.n1, v.nn, v.s, hd, v.h, v.w, v.e0, v.e1, nok_nil _, lok_nil, aok_nil _, fun q => by simp [calmR] at q, fun _ => ⟨hq.1, rfl, rfl⟩, fun q => by simp [calmR] at q, fun q => by simp [calmR] at q, .inl hu⟩
theorem VR.wish (v : VR r) (hu : r.up = true) (t : ByteArray) : VR (wishR r t) := by
 unfold wishR;split
 ·rename_i h;unfold wishB at h;simp only [Bool.and_eq_true, inB_iff, decide_eq_true_eq, Bool.not_eq_true'] at h;obtain ⟨⟨⟨h1, h2⟩, _⟩, h4⟩ := h;refine ⟨v.o1, v.o5, v.n1, v.nn, v.s, v.d, v.h, ⟨?_, fun x hx => ?_, ?_⟩, v.e0, v.e1, v.y, v.b, v.a, v.lt, v.ld, v.tr, v.cl, .inl hu⟩
  ·show (r.wish ++ [t]).length ≤ 20;simp; omega
  ·rcases List.mem_append.1 hx with hx | hx
   ·exact v.w.t x hx
   ·simp only [List.mem_cons, List.not_mem_nil, or_false] at hx;rw [hx]; omega
  ·show (r.wish ++ [t]).Pairwise _;rw [List.pairwise_append];refine ⟨v.w.p, by simp, fun a ha b hb => ?_⟩;simp only [List.mem_cons, List.not_mem_nil, or_false] at hb;rw [hb];unfold hasB at h4;have := List.any_eq_false.1 h4 a ha;rw [sameB_comm];simpa using this
 ·exact v
end Go.Proofs.Ytjdceoimignnpaa
