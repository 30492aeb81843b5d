import Derived.Test.YtjdceoimignnpaaF30
import Derived.Test.YtjdceoimignnpaaF29
namespace Go.Proofs.Ytjdceoimignnpaa
open Go.ChangeShapes Go.WideShapes Go.ChangeAt Go.RowKit next
set_option linter.unusedVariables false
set_option linter.unusedSimpArgs false
set_option maxHeartbeats 16000000
set_option maxRecDepth 20000
variable {k p : Int} {a b l : List Sl} {g i : Nat} {r : Rc} {s : Sl}
theorem ui {ops : Array Oper} {rest : List Oper} {dst : Option Tmp} {x : Operand} {τ : TypeId} {pos : String} {after : Array Edge} {gd : Option (Nat × Bool)} {a : Act} {w : World} {Q : Exit → Act → World → Prop}
  (g : Nat) (cs : Array Value) (hs : cs.size = 8) (hw : Region.wanted { dst := dst, op := .load 49 x, type := τ, pos := pos, after := after, guard := gd } (yielded ops a.tmps) = true) (hx : a.eval x = .pointer (some ⟨g, 0, none⟩)) (hg : aC w g cs 49)
  (h : wpList Try.prog ops Q rest (a.put dst (.agg cs)) w) :
  wpList Try.prog ops Q ({ dst := dst, op := .load 49 x, type := τ, pos := pos, after := after, guard := gd } :: rest) a w :=
 wpList_step fun K hK => by
  rw [if_pos hw];exact wp_load_row (o := { dst := dst, op := .load 49 x, type := τ, pos := pos, after := after, guard := gd }) 49 x rfl g hx 49 cs (0, 0) _ hg Try.underlying49 rfl (by rw [hs]; kernel_rfl) (hK _ _ h)
def iq (r : Rc) (m : gq) (l : List Sl) : Rc := if bf r = true then (if r.up = true ∧ bY m r.of_ l = true ∧ m.t = r.num then tV r m l else r) else pV
theorem yO {S : World → Prop} {ops : Array Oper} {o : Oper} {a : Act} {cs : Array Value} (hb : ∀ w, S w → aC w g cs 49) (hs : cs.size = 8) (hw : Region.wanted o (yielded ops a.tmps) = true) (x : Operand) (ho : o.op = .load 49 x) (hx : a.eval x = .pointer (some ⟨g, 0, none⟩)) :
  YieldsIf Try.prog ops S o (.agg cs) a :=
 .inl ⟨hw, fun w hS => by
  unfold execOp
  simp only [ho, hx, Instr.loadAt, Instr.sureAddr, Sem.run_bind, Sem.run_pure, Result.andThen_ok, run_loadVar_row w g 49 49 cs (0, 0) _ (hb w hS) Try.underlying49 rfl (by rw [hs]; kernel_rfl)]⟩
structure qK (g h : Nat) (c cm : Array Value) (w' : World) : Prop where
 blk : aC w' g c 31
 bm : aC w' h cm 49
theorem qK.drew {h : Nat} {c cm : Array Value} {w' : World} (k : qK g h c cm w') : qK g h c cm w'.drew := ⟨k.blk, k.bm⟩
theorem Aq (B : Nat) (r : Rc) (p : fU) (X : iU) (col : Nat → Nat) (m : gq) (al : Option Addr) (l : List Sl) (cl : Nat) (w : World) (hS : bD r) (hl : l.length ≤ 1048576) (hac : al = none → cl = 0) (hsp : ∀ x, al = some x → x.spot = none) (hx : m.x.size ≤ maxLen) (hsl : cO w al l) (h : aG B w r p X col) :
  Calls Try.prog 100 #[.agg (au r p), .agg (bU m (.slice al l.length cl))] w (yz w (iq r m l)) := by
 have RD := hid h;have HS := hid hS;have HL := hid (show l.length ≤ 1048576 ∧ (al = none → cl = 0) ∧ (∀ x, al = some x → x.spot = none) from ⟨hl, hac, hsp⟩);have SL := hid hsl;have HX := hid hx;have GL := hid hsl.good;clear h hS hac hsp hx hsl;obtain ⟨V, hV⟩ : ∃ V, V = ((w.alloc (.cells (au r p) 31)).alloc (.cells (bU m (.slice al l.length cl)) 49)).alloc (.cells bP 31) := ⟨_, rfl⟩
 have BV := hid (show Below w.heap.size w V by rw [hV]; exact ae (ae (ae (Below.refl _ _) _) _) _);have K1 := hid (show aC V w.heap.size (au r p) 31 by rw [hV]; exact ((aC.new _ _ _).alloc _).alloc _);have KM := hid (show aC V (w.heap.size + 1) (bU m (.slice al l.length cl)) 49 by rw [hV]; exact (aC.new' _ _ (by simp)).alloc _);have K2 := hid (show aC V (w.heap.size + 1 + 1) bP 31 by rw [hV]; exact aC.new' _ _ (by simp));have k1 := K1.out;rw [hV] at k1;go_enter Try.func100, Try.ntmps100;go_wp2_with ((with_reducible refine ah w.heap.size (au r p) rfl ?_ ?_ ?_); rfl; exact k1);rw [← hV];clear hV k1;refine (jf r p _ HS.out (RD.out.ext BV.out).at).mono ?_;rintro e w1 ⟨rfl, hb1⟩;have B1 := hid (aj BV.out hb1);have k1 := K1.out.ext hb1;have k2 := K2.out.ext hb1;have K1b := hid k1;have KMb := hid (KM.out.ext hb1);have K2b := hid k2;have SZ1 := hid (show w.heap.size + 1 + 1 < w1.heap.size from k2.lt);clear hb1 K1 K2 KM BV;cases hv : bf r
 case false =>
  have HN := hid (show iq r m l = pV by unfold iq; rw [hv]; rfl)
  go_wp2_with (first
   | ((with_reducible refine bH (ty := 31) bP ?_ ?_); (· kernel_rfl))
   | ((with_reducible refine af (w.heap.size + 1 + 1) bP bP rfl rfl ?_ ?_ ?_ ?_ ?_); rfl; rfl; exact k2; simp [Value.oneCell']))
  have hz := setRow_heap _ (w.heap.size + 1 + 1) _ bP _ _ k2;refine az (ty := 31) Try.results100 (w.heap.size + 1 + 1) bP _ ?_ ?_ hz Try.underlying31 rfl (by kernel_rfl) ?_
  ·rfl
  ·rfl
  rw [HN.out];exact ⟨IX, ⟨[], []⟩, fun _ => 0, rfl, lT _ _ _, ay B1.out (by omega) _⟩
 have VO := hid (show r.of_ ≤ 5 by
  have h9 := hv;unfold bf at h9;simp only [Bool.and_eq_true] at h9
  exact (bK.1 h9.1.1.1.1.1.1.1.1.1.1.1.1).2)
 go_wp2_with ((with_reducible refine ah w.heap.size (au r p) rfl ?_ ?_ ?_); rfl; exact k1);refine (jm B r p X col _ HS.out (RD.out.ext B1.out)).mono ?_;rintro e w2 ⟨p2, X2, col2, rfl, has2, hb2⟩;have B2 := hid (aj B1.out hb2);have SZ2 := hid (show w1.heap.size ≤ w2.heap.size from hb2.size);have K1c := hid (K1b.out.ext hb2);have KMc0 := hid (KMb.out.ext hb2);have K2c0 := hid (K2b.out.ext hb2);have HF2 := hid has2.fresh;clear has2 hb2 k1 k2 K1b KMb K2b;obtain ⟨W, hW⟩ : ∃ W, W = w2.alloc (.cells (au r p2) 31) := ⟨_, rfl⟩
 have EW := hid (show Below w2.heap.size w2 W by rw [hW]; exact ae (Below.refl _ _) _);have K5 := hid (show aC W w2.heap.size (au r p2) 31 by rw [hW]; exact aC.new _ _ _);have KMd := hid (KMc0.out.ext EW.out);have K2d := hid (K2c0.out.ext EW.out);have K1d := hid (K1c.out.ext EW.out);have HAW := hid (HF2.out.ext EW.out);have BW := hid (aj B2.out EW.out);clear K1c KMc0 K2c0 HF2;have k5 := K5.out;have k2 := K2d.out;have kM := KMd.out;have cK := K1d.out.cell;have cM := KMd.out.cell;rw [hW] at k5 k2 kM cK cM;cases hu : r.up
 case false =>
  have FIN := hid (show iq r m l = r by unfold iq; rw [if_pos hv, if_neg (by rw [hu]; simp)])
  go_wp2_with (first
   | ((with_reducible refine dI (au r p2) rfl ?_ ?_ ?_ ?_ ?_); rfl; rfl; rfl; simp [Value.oneCell'])
   | ((with_reducible refine ah w2.heap.size (au r p2) rfl ?_ ?_ ?_); rfl; exact k5)
   | ((with_reducible refine af (w.heap.size + 1 + 1) bP (au r p2) rfl rfl ?_ ?_ ?_ ?_ ?_); rfl; rfl; exact k2; simp [Value.oneCell']))
  have hz := setRow_heap _ (w.heap.size + 1 + 1) _ (au r p2) _ _ k2;refine az (ty := 31) Try.results100 (w.heap.size + 1 + 1) (au r p2) _ ?_ ?_ hz Try.underlying31 rfl (by kernel_rfl) ?_
  ·rfl
  ·rfl
  rw [FIN.out, ← hW];exact ⟨p2, X2, _, rfl, (HAW.out.far (by have := SZ1.out; omega) _).lower (by have := SZ1.out; omega), ay BW.out (by omega) _⟩
 have HU := hid hu
 go_wp2_with (first
  | ((with_reducible refine dI (au r p2) rfl ?_ ?_ ?_ ?_ ?_); rfl; rfl; rfl; simp [Value.oneCell'])
  | ((with_reducible refine ui (w.heap.size + 1) (bU m (.slice al l.length cl)) rfl ?_ ?_ ?_ ?_); rfl; rfl; exact kM))
 rw [← hW];clear hW k5 k2 kM cK cM;refine (nY m r.of_ al l l.length cl _ rfl (by unfold maxLen; omega) HX.out (SL.out.ext BW.out)).mono ?_;rintro e w3 ⟨rfl, hb3⟩;have B3 := hid (aj BW.out hb3);have SZ3 := hid (show w2.heap.size ≤ w3.heap.size from Nat.le_trans EW.out.size hb3.size);have K5b := hid (K5.out.ext hb3);have KMb := hid (KMd.out.ext hb3);have K2b := hid (K2d.out.ext hb3);have K1b := hid (K1d.out.ext hb3);have HAS3 := hid (HAW.out.ext hb3);clear hb3 K5 KMd K2d K1d HAW BW EW;have k5 := K5b.out;have k2 := K2b.out;have kM := KMb.out;have cK := K1b.out.cell;have cM := KMb.out.cell;cases hm : bY m r.of_ l
 case false =>
  have FIN := hid (show iq r m l = r by unfold iq; rw [if_pos hv, if_neg (fun q => by rw [hm] at q; exact absurd q.2.1 (by simp))])
  go_wp2_with (first
   | ((with_reducible refine ah w2.heap.size (au r p2) rfl ?_ ?_ ?_); rfl; exact k5)
   | ((with_reducible refine af (w.heap.size + 1 + 1) bP (au r p2) rfl rfl ?_ ?_ ?_ ?_ ?_); rfl; rfl; exact k2; simp [Value.oneCell']))
  have hz := setRow_heap _ (w.heap.size + 1 + 1) _ (au r p2) _ _ k2;refine az (ty := 31) Try.results100 (w.heap.size + 1 + 1) (au r p2) _ ?_ ?_ hz Try.underlying31 rfl (by kernel_rfl) ?_
  ·rfl
  ·rfl
  rw [FIN.out];exact ⟨p2, X2, _, rfl, (HAS3.out.far (by have := SZ1.out; omega) _).lower (by have := SZ1.out; omega), ay B3.out (by omega) _⟩
 have HM := hid hm;by_cases ht : m.t = r.num;case neg =>
  have u1 : (m.t == r.num) = false := beq_false_of_ne ht;have FIN := hid (show iq r m l = r by unfold iq; rw [if_pos hv, if_neg (fun q => ht q.2.2)])
  go_wp2_with (first
   | ((with_reducible refine ah w2.heap.size (au r p2) rfl ?_ ?_ ?_); rfl; exact k5)
   | ((with_reducible refine af (w.heap.size + 1 + 1) bP (au r p2) rfl rfl ?_ ?_ ?_ ?_ ?_); rfl; rfl; exact k2; simp [Value.oneCell']))
  have hz := setRow_heap _ (w.heap.size + 1 + 1) _ (au r p2) _ _ k2;refine az (ty := 31) Try.results100 (w.heap.size + 1 + 1) (au r p2) _ ?_ ?_ hz Try.underlying31 rfl (by kernel_rfl) ?_
  ·rfl
  ·rfl
  rw [FIN.out];exact ⟨p2, X2, _, rfl, (HAS3.out.far (by have := SZ1.out; omega) _).lower (by have := SZ1.out; omega), ay B3.out (by omega) _⟩
 have u1 : (m.t == r.num) = true := by rw [ht]; exact beq_self_eq_true _
 have HT := hid ht;clear ht;go_wp2_with fail;have hK0 : qK w2.heap.size (w.heap.size + 1) (au r p2) (bU m (.slice al l.length cl)) w3 := ⟨k5, kM⟩
 refine aI (S := qK w2.heap.size (w.heap.size + 1) (au r p2) (bU m (.slice al l.length cl))) 5 (by kernel_rfl) hK0.drew (fun q9 => ?_);simp only [qz, Nat.reduceAdd];clear hK0 k5 kM k2;refine dO (i := 0) (v := .agg (au r p2)) (ax rfl) (by kernel_rfl) (by kernel_rfl) (by kernel_rfl) (by kernel_rfl) (fun _ _ _ h => h) (gG (fun w9 hS => hS.blk) rfl (by rfl) _ rfl rfl) q9 ?_;try simp only [qq]
 refine dO (i := 1) (v := .agg (bU m (.slice al l.length cl))) (ax rfl) (by kernel_rfl) (by kernel_rfl) (by kernel_rfl) (by kernel_rfl) (fun _ _ _ h => h) (yO (fun w9 hS => hS.bm) rfl (by rfl) _ rfl rfl) q9 ?_;try simp only [qq]
 refine aT 2 fun K hK => ?_
 go_simp;refine (uy m al l l.length cl w3.drew rfl HL.out.1 HL.out.2.1 HL.out.2.2 (SL.out.ext (show Below w.heap.size w w3.drew from aj B3.out (Below.refl _ _).drew))).mono ?_;rintro e v4 ⟨g4, c4, rfl, hg4, ow4, hb4⟩;have E4 := hid (show Below w3.heap.size w3 v4 from (show Below w3.heap.size w3 w3.drew from (Below.refl _ _).drew).trans hb4);have Z4 := hid (aO.mk (B := w3.heap.size) (col := fun _ => 0) (t := 0) ow4 (fun _ _ => rfl));clear ow4 hg4;go_wp2_with fail;refine hK.out _ _ ⟨K5b.out.ext E4.out, KMb.out.ext E4.out⟩ (fun hNew => ?_);clear hK K q9 hb4;have q9 := hNew;clear hNew;try simp only [qq]
 refine aT 3 fun K hK => ?_
 go_simp;refine (Gt w1.heap.size r p2 X2 (dm w2.heap.size col2) m (some ⟨g4, 0, none⟩) l c4 r.of_ v4 (Nat.le_trans SZ2.out (Nat.le_trans SZ3.out E4.out.size)) (pJ hv HS.out) (VO.out) HM.out (Z4.out.slots GL.out) (HAS3.out.ext E4.out)).mono ?_;obtain ⟨r5, hr5⟩ : ∃ x, x = tV r m l := ⟨_, rfl⟩
 rw [← hr5];have S5 := hid (show bD r5 by rw [hr5]; exact ((AV hv HS.out).take (pJ hv HS.out) HM.out).s);have FIN := hid (show iq r m l = r5 by unfold iq; rw [if_pos hv, if_pos ⟨HU.out, HM.out, HT.out⟩, hr5]);clear hr5;rintro e v5 ⟨p5, X5, c5, rfl, has5, hb5, ot5⟩;have H5 := hid has5;have B5 := hid hb5;have K5c := hid (show aC v5 w2.heap.size (au r p2) 31 from (ot5 _ (K5b.out.ext E4.out).lt (by rw [bI (Nat.le_refl _)]; omega)).1.trans (K5b.out.ext E4.out));have KMc := hid ((KMb.out.ext E4.out).below hb5 (by have := SZ1.out; omega));have K2c := hid ((K2b.out.ext E4.out).below hb5 SZ1.out);clear has5 hb5 ot5;go_wp2_with fail;refine hK.out _ _ ⟨K5c.out, KMc.out⟩ ?_;clear hK K q9;intro q9;try simp only [qq]
 refine aT 4 fun K hK => ?_
 go_simp;refine (jm w1.heap.size r5 p5 X5 c5 v5 S5.out H5.out).mono ?_;rintro e v6 ⟨p6, X6, c6, rfl, has6, hb6⟩;have H6 := hid has6;have B6 := hid (show Below w.heap.size w v6 from aj ((aj B3.out E4.out).trans (B5.out.mono (by have := SZ1.out; omega))) hb6);have k6 := K2c.out.ext hb6;have SV5 := hid (show w1.heap.size ≤ v5.heap.size from Nat.le_trans SZ2.out (Nat.le_trans SZ3.out (Nat.le_trans E4.out.size B5.out.size)));go_wp2_with fail;refine hK.out _ _ ⟨K5c.out.ext hb6, KMc.out.ext hb6⟩ (fun _ => ?_);clear hK K q9 has6 hb6;try simp only [qq]
 refine aJ fun K hK => ?_
 rw [if_pos (by rfl)];refine wp_store_row 31 _ _ rfl (w.heap.size + 1 + 1) (au r5 p6) rfl rfl 31 bP k6 (by kernel_rfl) rfl (by simp [Value.oneCell']) ?_;refine hK.out _ _ ?_;clear hK K;go_wp2_with fail;have hz := setRow_heap _ (w.heap.size + 1 + 1) _ (au r5 p6) _ _ k6;refine az (ty := 31) Try.results100 (w.heap.size + 1 + 1) (au r5 p6) _ ?_ ?_ hz Try.underlying31 rfl (by kernel_rfl) ?_
 ·rfl
 ·rfl
 rw [FIN.out];exact ⟨p6, X6, _, rfl, (H6.out.far (by have := SZ1.out; have := SV5.out; omega) _).lower (by have := SZ1.out; have := SV5.out; omega), ay B6.out (by omega) _⟩
theorem uk (h : Int) : I8 h [] := ⟨fun x hx => absurd hx (by simp), List.Pairwise.nil⟩
theorem jI : Fj [] := ⟨by simp, fun s hs => absurd hs (by simp)⟩
theorem vV (o : Int) : Lj o [] := ⟨fun a ha => absurd ha (by simp), List.Pairwise.nil, fun a ha => absurd ha (by simp)⟩
theorem Ar : JC (0, ⟨#[]⟩) := ⟨by simp, by simp, Nat.zero_le _, fun _ => by rw [ByteArray.toList_eq]; rfl⟩
theorem VR.calm (v : VR r) : VR (aU r) :=
 ⟨v.o1, v.o5, v.n1, v.nn, v.s, v.d, v.h, v.w, v.e0, v.e1, uk _, jI, vV _, fun q => by simp [aU] at q, fun q => by simp [aU] at q, fun _ q => by simp [aU] at q, fun _ _ => ⟨rfl, rfl, rfl, rfl⟩, by
  rcases v.up with h | ⟨h1, h2, h3, h4, h5⟩
  ·exact .inl h
  ·exact .inr ⟨rfl, rfl, h3, h4, h5⟩⟩
theorem AL.more {q : Int} (h : AL p k l) (hq : p ≤ q) (h1 : q ≤ 1000000) : AL q k l := ⟨by have := h.p0; omega, h1, h.k0, h.k1, h.lk, fun s hs => by have := h.b s hs; omega, h.z⟩
theorem VR.JL (v : VR r) {b : Int} (h0 : r.dp ≤ b) (h1 : b ≤ 1000000) : VR { r with dp := b } :=
 ⟨v.o1, v.o5, v.n1, v.nn, v.s, v.d.more h0 h1, v.h, v.w, v.e0, v.e1, v.y, v.b, v.a, v.lt, fun q => by have := v.ld q; exact ⟨⟨this.1.1, by show r.ball ≤ b; have := this.1.2; omega⟩, this.2⟩, fun q1 q2 => by have := v.tr q1 q2; exact ⟨⟨this.1.1, by show r.ball ≤ b; have := this.1.2; omega⟩, this.2⟩, v.cl, v.up⟩
theorem VR.rise (v : VR r) {b : Int} (h1 : b ≤ 1000000) : VR (kF r b) := by
 unfold kF;split
 ·exact v.JL (by omega) h1
 ·exact v
theorem VR.hush (v : VR r) : VR (hush r) :=
 ⟨v.o1, v.o5, v.n1, v.nn, v.s, v.d, v.h, v.w, by show (0 : Int) ≤ 0; omega, by show (0 : Int) ≤ 1000000; omega, v.y, v.b, v.a, v.lt, v.ld, v.tr, v.cl, by
  rcases v.up with h | ⟨h1, h2, h3, h4, h5⟩
  ·exact .inl h
  ·exact .inr ⟨h1, h2, h3, h4, rfl⟩⟩
theorem VR.follow (v : VR r) {b : Int} (h1 : b ≤ 1000000) : VR (bJ r b) := by
 unfold bJ;split
 ·exact (v.rise h1).hush
 ·exact (v.rise h1).calm.hush
theorem qj (r : Rc) (b : Int) : (bJ r b).num = r.num ∧ (bJ r b).of_ = r.of_ ∧ (bJ r b).up = r.up ∧ (bJ r b).dk = r.dk ∧ (bJ r b).ds = r.ds ∧ (bJ r b).wish = r.wish ∧ r.dp ≤ (bJ r b).dp ∧ b ≤ (bJ r b).dp := by
 unfold bJ hush kF aU;split
 ·simp only []; split <;> simp <;> omega
 ·simp only []; split <;> simp <;> omega
theorem VR.hold (v : VR r) (hu : r.up = true) {m : gq} {l : List Sl} (hm : bY { m with f := r.num } r.of_ l = true) : VR (dw r m l) := by
 unfold dw;split
 ·rename_i hl;refine ⟨v.o1, v.o5, v.n1, v.nn, v.s, v.d, ⟨?_, fun q hq => ?_⟩, v.w, v.e0, v.e1, v.y, v.b, v.a, v.lt, v.ld, v.tr, v.cl, .inl hu⟩
  ·show (r.held ++ [({ m with f := r.num }, l)]).length ≤ 400;simp; omega
  ·rcases List.mem_append.1 hq with hq | hq
   ·exact v.h.m q hq
   ·simp only [List.mem_cons, List.not_mem_nil, or_false] at hq;rw [hq]; exact ⟨rfl, hm⟩
 ·exact v
theorem kN (r : Rc) (m : gq) (l : List Sl) : (dw r m l).num = r.num ∧ (dw r m l).of_ = r.of_ ∧ (dw r m l).up = r.up ∧ (dw r m l).dk = r.dk ∧ (dw r m l).ds = r.ds ∧ (dw r m l).wish = r.wish ∧ (dw r m l).dp = r.dp ∧ (dw r m l).ball = r.ball ∧ (dw r m l).lead = r.lead := by
 unfold dw;split <;> simp
theorem Ac {x : Sl} (h : x ∈ nU l i s) : x ∈ l ∨ x = s ∨ x = (0, ⟨#[]⟩) := by
 unfold nU zQ at h;rcases List.mem_or_eq_of_mem_set h with h | h
 ·rcases List.mem_append.1 h with h | h
  ·exact .inl h
  ·exact .inr (.inr (List.eq_of_mem_replicate h))
 ·exact .inr (.inl h)
theorem zI {j : Nat} (hj : j < l.length) (hij : j + 1 ≠ i) (hi : 1 ≤ i) : (nU l i s)[j]? = l[j]? := by
 unfold nU zQ;rw [List.getElem?_set_ne (by omega), List.getElem?_append_left hj]
theorem Hm (hi : 1 ≤ i) : (nU l i s)[i - 1]? = some s := by
 unfold nU zQ;rw [List.getElem?_set_self];simp; omega
theorem AL.set (h : AL p k l) {i : Nat} {s : Sl} (hk : k < i) (hi : i ≤ 60) (hs : JC s) (hp : s.1 ≤ p) : AL p k (nU l i s) := by
 have k0 := h.k0;have hl := oP l i s;refine ⟨h.p0, h.p1, h.k0, by rw [hl]; have := h.k1; omega, ⟨by rw [hl]; have := h.lk.n; omega, fun x hx => ?_⟩, fun x hx => ?_, fun j x hx hj => ?_⟩
 ·rcases Ac hx with hx | rfl | rfl
  ·exact h.lk.s x hx
  ·exact hs
  ·exact Ar
 ·rcases Ac hx with hx | rfl | rfl
  ·exact h.b x hx
  ·exact hp
  ·exact h.p0
 ·have := h.k1;rw [zI (by omega) (by omega) (by omega)] at hx;exact h.z j x hx hj
theorem VR.MQ (v : VR r) {d : Int} {l : List Sl} (h : AL r.dp d l) : VR { r with dk := d, ds := l } :=
 ⟨v.o1, v.o5, v.n1, v.nn, v.s, h, v.h, v.w, v.e0, v.e1, v.y, v.b, v.a, v.lt, v.ld, v.tr, v.cl, v.up⟩
theorem VR.set (v : VR r) {i : Nat} {s : Sl} (hk : r.dk < i) (hi : i ≤ 60) (hs : JC s) (hp : s.1 ≤ r.dp) : VR (rC r i s) := v.MQ (v.d.set hk hi hs hp)
theorem AL.at {d : Int} (h : AL p k l) (h0 : 0 ≤ d) (h1 : d ≤ l.length) (hz : ∀ (i : Nat) s, l[i]? = some s → (i : Int) < d → s.1 ≠ 0) : AL p d l := ⟨h.p0, h.p1, h0, h1, h.lk, h.b, hz⟩
theorem Ae {h : Int} {l : List Int} {n : Int} (v : I8 h l) (h1 : 1 ≤ n) (h2 : n ≤ h) : I8 h (dN l n) := by
 refine ⟨fun x hx => ?_, yK l n v.p⟩;rcases xA l n x hx with hx | rfl
 ·exact v.r x hx
 ·exact ⟨h1, h2⟩
theorem Gi {o : Int} {l : List Ak} {i f : Int} (v : Lj o l) (i1 : 1 ≤ i) (i2 : i ≤ 60) (f1 : 1 ≤ f) (f2 : f ≤ o) : Lj o (jy l i f) := by
 refine ⟨fun x hx => ?_, yM l i f v.p, fun x hx => ?_⟩
 ·rcases uf l i f x hx with hx | ⟨z, hz, _, rfl⟩ | rfl
  ·exact v.r x hx
  ·exact v.r z hz
  ·exact ⟨i1, i2⟩
 ·rcases uf l i f x hx with hx | ⟨z, hz, _, rfl⟩ | rfl
  ·exact v.f x hx
  ·exact Ae (v.f z hz) f1 f2
  ·exact ⟨fun y hy => by simp only [List.mem_singleton] at hy; rw [hy]; exact ⟨f1, f2⟩, by simp⟩
def GG (l : List Sl) (d : Int) : Prop := 0 ≤ d ∧ d ≤ l.length ∧ ∀ (i : Nat) s, l[i]? = some s → (i : Int) < d → s.1 ≠ 0
theorem FZ (hb : 1 ≤ r.ball) : ∀ (l : List Ak) (d : Int), GG r.ds d → GG r.ds (rE r l d)
 | [], d, h => h
 | a :: l, d, h => by
  show GG r.ds (rE r l (if vO r d a = true then a.1 else d));refine FZ hb l _ ?_;split
  ·rename_i ha;unfold vO at ha;simp only [Bool.and_eq_true, decide_eq_true_eq] at ha;obtain ⟨h1, _, h3⟩ := ha;have hlt := Ba h3;unfold xN at h3;obtain ⟨k0, k1, kz⟩ := h;refine ⟨by omega, by omega, fun i s hs hi => ?_⟩;by_cases hi2 : (i : Int) < d
   ·exact kz i s hs hi2
   ·have e : i = d.toNat := by omega
    rw [← e, hs] at h3;simp only [decide_eq_true_eq, beq_iff_eq] at h3;omega
  ·exact h
theorem VR.KI (v : VR r) (hl : r.lead = true) {i f : Int} (i1 : 1 ≤ i) (i2 : i ≤ 60) (f1 : 1 ≤ f) (f2 : f ≤ r.of_) : VR (lI r i f) := by
 have hb := (v.ld hl).1.1;have hz := FZ (r := { r with acks := jy r.acks i f }) hb (jy r.acks i f) r.dk ⟨v.d.k0, v.d.k1, v.d.z⟩;have hd : AL r.dp (rE { r with acks := jy r.acks i f } (jy r.acks i f) r.dk) r.ds := v.d.at hz.1 hz.2.1 hz.2.2;unfold lI pK
 exact ⟨v.o1, v.o5, v.n1, v.nn, v.s, hd, v.h, v.w, v.e0, v.e1, v.y, v.b, Gi v.a i1 i2 f1 f2, v.lt, v.ld, fun q => by rw [hl] at q; simp at q, fun q => by rw [hl] at q; simp at q, by
  rcases v.up with h | ⟨h1, _⟩
  ·exact .inl h
  ·rw [hl] at h1; simp at h1⟩
theorem Fq (ha : ∀ s ∈ a, JC s) (hb : ∀ s ∈ b, JC s) : JC (mM a b i) := by
 unfold mM;split
 ·rename_i x y hx hy;split
  ·exact hb _ (List.mem_of_getElem? hy)
  ·exact ha _ (List.mem_of_getElem? hx)
 ·rename_i x hx hy;exact ha _ (List.mem_of_getElem? hx)
 ·rename_i y hx hy;exact hb _ (List.mem_of_getElem? hy)
 ·exact Ar
theorem E9 (ha : Fj a) (hb : Fj b) : Fj (dY a b) := by
 refine ⟨by rw [kT]; have := ha.n; have := hb.n; omega, fun s hs => ?_⟩;unfold dY at hs;obtain ⟨i, _, rfl⟩ := List.mem_map.1 hs;exact Fq ha.s hb.s
theorem yH {b : Int} (hb0 : 1 ≤ b) (hb : b ≤ p) : ∀ (t : List Sl) (i : Nat) (l : List Sl), AL p k l → k ≤ i → i + t.length ≤ 60 → (∀ s ∈ t, s.2.size ≤ 100) → AL p k (rJ b t i l)
 | [], i, l, h, _, _, _ => h
 | s :: t, i, l, h, hk, hi, ht => by
  have hp := h.p1;simp only [List.length_cons] at hi;unfold rJ;refine yH hb0 hb t (i + 1) _ (h.set (by omega) (by omega) ⟨by show 0 ≤ b; omega, by show b ≤ 1000000; omega, ht s (by simp), fun q => by have : b = 0 := q; omega⟩ hb) (by omega) (by omega) (fun x hx => ht x (by simp [hx]))
theorem VR.IB (v : VR r) (hu : r.up = true) (ht : r.tr = true) {f : Int} {l : List Sl} (f1 : 1 ≤ f) (f2 : f ≤ r.of_) (hl : Fj l) : VR (jl r f l) := by
 have hld : r.lead = false := by
  cases h : r.lead
  ·rfl
  ·exact absurd ⟨h, ht⟩ v.lt
 have hq := v.tr hld ht;have hm := E9 v.b hl;unfold jl;split
 ·exact ⟨v.o1, v.o5, v.n1, v.nn, v.s, v.d, v.h, v.w, v.e0, v.e1, Ae v.y f1 f2, hm, v.a, v.lt, fun q => by have q' : r.lead = true := q; rw [hld] at q'; simp at q', fun _ _ => hq, fun _ q => by have q' : r.tr = false := q; rw [ht] at q'; simp at q', .inl hu⟩
 ·have h0 := v.d.k0;have hd : AL r.dp r.dk (jk r (dY r.best l)) := by
   unfold jk;refine yH hq.1.1 hq.1.2 _ _ _ v.d (by omega) ?_ (fun s hs => (hm.s s (List.mem_of_mem_drop hs)).t);rw [List.length_drop];have := hm.n;have := v.d.k1;have := v.d.lk.n;omega
  exact ⟨v.o1, v.o5, v.n1, v.nn, v.s, hd, v.h, v.w, v.e0, v.e1, uk _, jI, vV _, fun q => by simp [aU] at q, fun _ => ⟨hq.1, rfl, rfl⟩, fun q => by simp [aU] at q, fun q => by simp [aU] at q, .inl hu⟩
theorem VR.wish (v : VR r) (hu : r.up = true) (t : ByteArray) : VR (iC r t) := by
 unfold iC;split
 ·rename_i h;unfold pU at h;simp only [Bool.and_eq_true, bK, decide_eq_true_eq, Bool.not_eq_true'] at h;obtain ⟨⟨⟨h1, h2⟩, _⟩, h4⟩ := h;refine ⟨v.o1, v.o5, v.n1, v.nn, v.s, v.d, v.h, ⟨?_, fun x hx => ?_, ?_⟩, v.e0, v.e1, v.y, v.b, v.a, v.lt, v.ld, v.tr, v.cl, .inl hu⟩
  ·show (r.wish ++ [t]).length ≤ 20;simp; omega
  ·rcases List.mem_append.1 hx with hx | hx
   ·exact v.w.t x hx
   ·simp only [List.mem_cons, List.not_mem_nil, or_false] at hx;rw [hx]; omega
  ·show (r.wish ++ [t]).Pairwise _;rw [List.pairwise_append];refine ⟨v.w.p, by simp, fun a ha b hb => ?_⟩;simp only [List.mem_cons, List.not_mem_nil, or_false] at hb;rw [hb];unfold hasB at h4;have := List.any_eq_false.1 h4 a ha;rw [mQ];simpa using this
 ·exact v
end Go.Proofs.Ytjdceoimignnpaa
