import Derived.Test.YtjdceoimignnpaaF45
import Derived.Test.YtjdceoimignnpaaF46
import Derived.Test.YtjdceoimignnpaaF47
namespace Go.Proofs.Ytjdceoimignnpaa
open Go.ChangeShapes Go.WideShapes Go.ChangeAt Go.RowKit next
set_option linter.unusedVariables false
set_option linter.unusedSimpArgs false
set_option maxHeartbeats 32000000
set_option maxRecDepth 20000
variable {cs : Array Value} {X : List (Nat × TypeId × Array Value)} {H : List Mp} {J : List jF} {B g : Nat} {d : Wd} {p : kV} {w0 wr : World}
def yU (B : Nat) (q : jF) : jF := { q with c := under B q.c }
theorem xn (n : Nat) : ∀ (l : List Rc) (I : List jF), fG l (I.map (yU n)) = fG l I
 | [], [] => rfl
 | [], _ :: _ => rfl
 | _ :: _, [] => rfl
 | r :: l, q :: I => by
  simp only [List.map_cons, fG, xn n l I];rfl
theorem WM.down {B' : Nat} {w : World} {I : List jF} (h : WM B w d p I H) (hB : B' ≤ B) : WM B' w d p (I.map (yU B)) H := by
 have k := h.low hB;refine ⟨by rw [List.length_map]; exact k.li, by rw [xn]; exact k.row, fun i r q hr hq => ?_, k.fm, k.fr, k.fi, k.fx, k.ok⟩;rw [List.getElem?_map, Option.map_eq_some_iff] at hq;obtain ⟨q0, h0, rfl⟩ := hq;have hh := h.rc i r q0 hr h0;exact ⟨hh.1.down hB, fun x hx => by show 8 < under B q0.c x.block; rw [o6 (h.lt x hx).1]; exact hh.2.1 x hx, fun x hx => by show 8 < under B q0.c x.block; rw [o6 (aO.lt h.fr x hx).1]; exact hh.2.2 x hx⟩
theorem WB.swap {d' : Wd} {p' : kV} {J' : List jF} {H' : List Mp} {w' : World} (h : WB B w0 d p J H X wr) (m : WM wr.heap.size w' d' p' J' H') (hb : Below wr.heap.size wr w') : WB B w0 d' p' (J'.map (yU wr.heap.size)) H' X w' :=
 ⟨m.down h.low, h.b.trans (hb.mono h.low), h.s, fun u hu => ⟨(h.x u hu).1.ext hb, (h.x u hu).2.1, (h.x u hu).2.2.1, fun q hq => by
  obtain ⟨q0, h0, rfl⟩ := List.mem_map.1 hq;show 8 < under wr.heap.size q0.c u.1;rw [iT (h.x u hu).1.lt]
  omega⟩⟩
theorem RS.box {ca : Option Addr} {n cap k : Nat} {b : Nat} {T : TypeId} {cs' : Array Value} (h : RS w0 g ca n cap k d p J H ((b, T, cs) :: X) wr) (hX : ∀ u ∈ X, u.1 ≠ b) : RS w0 g ca n cap k d p J H ((b, T, cs') :: X) (wr.setRow b cs') :=
 h.step (h.t.top (fun c hc => setRow_other _ _ _ _ hc) (setRow_heap _ b _ _ _ _ (h.t.x _ (.head _)).1) (ay (Below.refl _ _) (h.t.x _ (.head _)).2.1 _) hX)
theorem qW {S : World → Prop} {ops : Array Oper} {o : Oper} {a : Act} (hb : ∀ w, S w → aC w g cs 116) (hs : cs.size = 3) (hw : Region.wanted o (yielded ops a.tmps) = true) (x : Operand) (ho : o.op = .load 116 x) (hx : a.eval x = .pointer (some ⟨g, 0, none⟩)) :
  YieldsIf Try.prog ops S o (.agg cs) a :=
 .inl ⟨hw, fun w hS => by
  unfold execOp
  simp only [ho, hx, Instr.loadAt, Instr.sureAddr, Sem.run_bind, Sem.run_pure, Result.andThen_ok, run_loadVar_row w g 116 116 cs (0, 0) _ (hb w hS) Try.underlying116 rfl (by rw [hs]; kernel_rfl)]⟩
theorem MB (v : Nat) (hv : v < 5) : ∃ m : Nat, (#[.int .i64 3, .int .i64 3, .int .i64 5, .int .i64 1, .int .i64 2] : Array Value)[v]? = some (.int .i64 (m : Int)) ∧ 1 ≤ m ∧ m ≤ 5 := by
 have h5 : v = 0 ∨ v = 1 ∨ v = 2 ∨ v = 3 ∨ v = 4 := by omega
 rcases h5 with rfl | rfl | rfl | rfl | rfl
 ·exact ⟨3, rfl, by omega, by omega⟩
 ·exact ⟨3, rfl, by omega, by omega⟩
 ·exact ⟨5, rfl, by omega, by omega⟩
 ·exact ⟨1, rfl, by omega, by omega⟩
 exact ⟨2, rfl, by omega, by omega⟩
theorem AX (w : World) (g : Nat) (ca : Option Addr) (n cap p : Nat) (h : pO w g ca n cap p) (hp : p ≤ 800000000) (hc : ∀ x, ca = some x → x.block < w.heap.size) :
  Calls Try.prog 81 #[.pointer (some ⟨g, 0, none⟩)] w fun e w' => ∃ d' p' J H' k', e = .returned (.agg (bQ d' p')) ∧ RS w g ca n cap k' d' p' J H' [] w' ∧ k' ≤ p + 1000 := by
 have HP := hid hp;have HC := hid hc;obtain ⟨V, hV⟩ : ∃ V, V = (w.alloc (.cells zW 116)).alloc (.cells #[.int .i64 3, .int .i64 3, .int .i64 5, .int .i64 1, .int .i64 2] 3) := ⟨_, rfl⟩
 have S0 := hid (show RX w g ca n cap [(w.heap.size + 1, 3, #[.int .i64 3, .int .i64 3, .int .i64 5, .int .i64 1, .int .i64 2]), (w.heap.size, 116, zW)] p V by
  rw [hV];have := ((RX.start h).new zW 116).new #[.int .i64 3, .int .i64 3, .int .i64 5, .int .i64 1, .int .i64 2] 3
  simpa using this)
 clear h hp hc;go_enter Try.func81, Try.ntmps81;go_wp2_with fail;rw [← hV];clear hV;refine (dD V g ca n cap p 5 S0.out.a (by have := HP.out; omega) (by omega) (by omega)).mono ?_;rintro e w1 ⟨v, rfl, hv, hu, ha⟩;have S1 := hid (S0.out.pick hu ha);clear hu ha S0;obtain ⟨m, hm, m1, m5⟩ := MB v (by omega);have c1 : w1.cell? ⟨w.heap.size + 1, v, none⟩ = some (.int .i64 (m : Int)) := ((S1.out.x _ (.head _)).1.cell v).trans hm;have e0 : (0 : Int) ≤ (v : Int) := by omega
 clear hm;go_wp2_with fail;refine (zh (m : Int) w1).mono ?_;rintro e w2 ⟨hb2, hw2⟩;rcases hw2 with ⟨hno, _⟩ | ⟨_, k2, g2, c2, hk2, k21, k25, rfl, row2⟩
 ·rw [bK.2 ⟨by omega, by omega⟩] at hno;cases hno
 obtain rfl : k2 = m := by omega
 have S2 := hid (S1.out.ext hb2);have Z2 := hid (show w.heap.size ≤ w1.heap.size from S1.out.w.size);obtain ⟨d0, hd0⟩ : ∃ x : Wd, x = ⟨uq k2 (k2 : Int), [], []⟩ := ⟨_, rfl⟩
 have M2 := hid (show WM w.heap.size w2 d0 ⟨some ⟨g2, 0, none⟩, c2, none, 0, none, 0⟩ (xX k2) [] by rw [hd0]; exact (Kw k21 k25 row2).low Z2.out);have L0 := hid (show d0.recs.length = k2 by rw [hd0]; exact jC _ _);have L1 := hid (show d0.fl.length = 0 by rw [hd0]; rfl);have L2 := hid (show d0.fx.length = 0 by rw [hd0]; rfl);clear hb2 row2 hd0 hk2 S1 c1;obtain ⟨g3, hg3⟩ : ∃ x, x = w2.heap.size := ⟨_, rfl⟩
 obtain ⟨p0, hp0⟩ : ∃ x : kV, x = ⟨some ⟨g2, 0, none⟩, c2, none, 0, none, 0⟩ := ⟨_, rfl⟩
 have HW := hid (show (#[.slice (some ⟨g2, 0, none⟩) k2 c2, .slice none 0 0, .slice none 0 0] : Array Value) = bQ d0 p0 by rw [hp0]; show _ = #[Value.slice (some ⟨g2, 0, none⟩) d0.recs.length c2, .slice none d0.fl.length 0, .slice none d0.fx.length 0]; rw [L0.out, L1.out, L2.out]);rw [HW.out];obtain ⟨W3, hW3⟩ : ∃ u, u = w2.alloc (.cells (bQ d0 p0) 116) := ⟨_, rfl⟩
 have NE := hid (show ∀ u ∈ [(w.heap.size, 116, zW)], u.1 ≠ g3 from fun u hu => by
  simp only [List.mem_cons, List.not_mem_nil, or_false] at hu;subst hu;have := (S2.out.x _ (.tail _ (.head _))).1.lt;rw [hg3];show w.heap.size ≠ w2.heap.size;have h9 : w.heap.size < w2.heap.size := this
  omega)
 have S3 := hid (show RS w g ca n cap (p + 1) d0 p0 (xX k2) [] [(g3, 116, bQ d0 p0), (w.heap.size, 116, zW)] W3 by
  have hb : Below w2.heap.size w2 W3 := by rw [hW3]; exact ae (Below.refl _ _) _
  have k := S2.out.ext hb;have z := k.x _ (.tail _ (.head _));have nc : ∀ b, ∀ q ∈ xX k2, 8 < q.c b := fun b q hq => by
   rw [List.eq_of_mem_replicate hq];show 8 < 9;omega
  refine ⟨⟨by rw [hp0]; exact M2.out.ext hb, Below.refl _ _, k.w.size, fun u hu => ?_⟩, k.a, k.w, k.l, HC.out⟩;simp only [List.mem_cons, List.not_mem_nil, or_false] at hu;rcases hu with rfl | rfl
  ·exact ⟨by rw [hW3, hg3]; exact aC.new _ _ _, by rw [hg3]; exact S2.out.w.size, vN, nc _⟩
  exact ⟨z.1, Nat.le_refl _, vN, nc _⟩)
 clear hp0 HW L0 L1 L2;go_wp2_with ((with_reducible refine kR (bQ d0 p0) rfl ?_ ?_ ?_ ?_ ?_); rfl; rfl; rfl; simp [Value.oneCell']);try rw [← hg3]
 rw [← hW3];clear hg3 hW3 M2 S2;refine (dD W3 g ca n cap (p + 1) 6 S3.out.a (by have := HP.out; omega) (by omega) (by omega)).mono ?_;rintro e w4 ⟨nv, rfl, hnv, hu, ha⟩;have S4 := hid (S3.out.pick hu ha);have NV := hid (show nv ≤ 5 by omega);clear hu ha S3 hnv hv;go_wp2_with fail;go_loopw [4, 5] (fun s4 _ wr => ∃ (nn k1 : Nat) (d1 : Wd) (p1 : kV) (J1 : List jF) (H1 : List Mp), nn ≤ 5 ∧ s4 = .int .i64 (nn : Int) ∧ k1 + 100 * nn ≤ p + 900 ∧ RS w g ca n cap (k1) d1 p1 J1 H1 [(g3, 116, bQ d1 p1), (w.heap.size, 116, zW)] wr) (fun s4 _ _ => (intOf s4).toNat);case atStart => exact ⟨nv, p + 1 + 1, d0, p0, _, _, NV.out, rfl, by have := NV.out; omega, S4.out⟩
 obtain ⟨nn, k1, d1, p1, J1, H1, hnn, rfl, hkb, hss⟩ := hrel
 rename World => wo
 have S1 := hid hss;clear hss S4;by_cases hn0 : 0 < nn
 ·have e3 : (0 : Int) < (nn : Int) := by omega
  have u3 : decide ((0 : Int) < (nn : Int)) = true := decide_eq_true e3;have e8 : IntKind.i64.wrap ((nn : Int) - 1) = (nn : Int) - 1 := by go_arith
  go_wp2_with fail;refine (dD wo g ca n cap k1 12 S1.out.a (by have := HP.out; omega) (by omega) (by omega)).mono ?_;rintro e w4 ⟨mv, rfl, hmv, hu, ha⟩;have S4 := hid (S1.out.pick hu ha);have MV := hid (show mv ≤ 11 by omega);clear hu ha S1 hmv
  go_upto_block 2 with fail
  go_cut [5] from 14 to 48 (fun _ wx => ∃ (k5 : Nat) (d5 : Wd) (p5 : kV) (J5 : List jF) (H5 : List Mp), k5 + 10 + 100 * (nn - 1) ≤ p + 900 ∧ RS w g ca n cap (k5) d5 p5 J5 H5 [(g3, 116, bQ d5 p5), (w.heap.size, 116, zW)] wx)
  case first =>
   go_wp2_with fail;go_loopw [5] (fun s5 wr => ∃ (mm k5 : Nat) (d5 : Wd) (p5 : kV) (J5 : List jF) (H5 : List Mp), mm ≤ 11 ∧ s5 = .int .i64 (mm : Int) ∧ k5 + 6 * mm + 10 + 100 * (nn - 1) ≤ p + 900 ∧ RS w g ca n cap (k5) d5 p5 J5 H5 [(g3, 116, bQ d5 p5), (w.heap.size, 116, zW)] wr) (fun s5 _ => (intOf s5).toNat);case atStart => exact ⟨mv, k1 + 1, d1, p1, J1, H1, MV.out, rfl, by have := MV.out; omega, S4.out⟩
   obtain ⟨mm, k5, d5, p5, J5, H5, hmm, rfl, hk5, hss⟩ := hrel;have S5 := hid hss;have KB5 := hid hk5;obtain ⟨wn, hwn⟩ : ∃ v : World, v = wr := ⟨_, rfl⟩
   subst hwn;clear hss S4 hk5;by_cases hm0 : 0 < mm
   ·have e4 : (0 : Int) < (mm : Int) := by omega
    have u4 : decide ((0 : Int) < (mm : Int)) = true := decide_eq_true e4;have e7 : IntKind.i64.wrap ((mm : Int) - 1) = (mm : Int) - 1 := by go_arith
    go_wp2_with fail;have hK0 : x8 g3 (bQ d5 p5) wn := ⟨(S5.out.t.x _ (.head _)).1⟩
    refine aI (S := x8 g3 (bQ d5 p5)) 7 (by kernel_rfl) ⟨aC.drew hK0.k⟩ (fun q9 => ?_);simp only [qz, Nat.reduceAdd];obtain ⟨w6, hw6⟩ : ∃ u, u = wn.drew := ⟨_, rfl⟩
    have S6 := hid (S5.out.ext (show Below wn.heap.size wn w6 by rw [hw6]; exact (Below.refl _ _).drew));rw [← hw6] at q9 ⊢;clear hw6 hK0 S5;refine bT (i := 0) (v := .agg (bQ d5 p5)) (ax rfl) (by kernel_rfl) (by kernel_rfl) (by kernel_rfl) (by kernel_rfl) (fun _ _ _ h => h) (qW (fun w9 hS => hS.k) rfl (by rfl) _ rfl rfl) q9 ?_;try simp only [qq]
    refine ak.go [1, 2, 3, 4] ?_;iterate 4 (refine ak.tk q9 ?_; try simp only [qq])
    refine ak.fin ?_;refine aT 5 fun K hK => ?_
    go_simp;refine (EU w6 g ca n cap k5 d5.recs.length S6.out.a (by have := KB5.out; have := HP.out; omega) ⟨(fZ.1 S6.out.t.m.ok).n1, (fZ.1 S6.out.t.m.ok).n5⟩ (fun x hx => Nat.lt_of_lt_of_le (S6.out.c x hx) S6.out.w.size)).mono ?_;rintro e w7 ⟨ek, ea, et, k7, rfl, ht, hw, ha, hk7⟩;have S7 := hid (S6.out.rd hw ha);have HT := hid ht;have K7 := hid hk7;clear hw ha S6 ht hk7;go_wp2_with fail;refine hK.out _ _ ⟨(S7.out.t.x _ (.head _)).1⟩ ?_;clear hK K q9;intro q9;try simp only [qq]
    refine aT 6 fun K hK => ?_
    go_simp;refine (KX w.heap.size d5 p5 J5 H5 ek ea et _ w7 S7.out.t (by have := HT.out; omega)).mono ?_;rintro e w8 ⟨d8, p8, J8, H8, rfl, g8, n8⟩;have S8 := hid (S7.out.step g8);clear g8 n8 S7;go_wp2_with fail;refine hK.out _ _ ⟨(S8.out.t.x _ (.head _)).1⟩ ?_;clear hK K q9;intro q9;try simp only [qq]
    refine aJ fun K hK => ?_
    rw [if_pos (by rfl)];refine wp_store_row 116 _ _ rfl g3 (bQ d8 p8) rfl rfl 116 (bQ d5 p5) (S8.out.t.x _ (.head _)).1 (by kernel_rfl) rfl (by simp [Value.oneCell']) ?_;refine hK.out _ _ ?_;clear hK K q9;have S9 := hid (show RS w g ca n cap (k7) d8 p8 J8 H8 [(g3, 116, bQ d8 p8), (w.heap.size, 116, zW)] (w8.setRow g3 (bQ d8 p8)) from S8.out.box NE.out);clear S8;obtain ⟨w9, hw9⟩ : ∃ u, u = w8.setRow g3 (bQ d8 p8) := ⟨_, rfl⟩
    rw [← hw9] at S9 ⊢;clear hw9;go_wp2_with fail;go_roundw;case rel => exact ⟨mm - 1, k7, d8, p8, J8, H8, by omega, by rw [show ((mm - 1 : Nat) : Int) = (mm : Int) - 1 by omega], by have := KB5.out; have := K7.out; omega, S9.out⟩
    case measure => simp [intOf]; omega
   have e4 : ¬ (0 : Int) < (mm : Int) := by omega
   have u4 : decide ((0 : Int) < (mm : Int)) = false := decide_eq_false e4;go_wp2_with fail
   go_meet
   case rel => exact ⟨k5, d5, p5, J5, H5, by have := KB5.out; omega, S5.out⟩
  case rest =>
   obtain ⟨k5, d5, p5, J5, H5, hk5, hss⟩ := hcut;have S5 := hid hss;have KB5 := hid hk5;obtain ⟨wn, hwn⟩ : ∃ v : World, v = wc := ⟨_, rfl⟩
   subst hwn;clear hss S4 hk5;go_wp2_with fail;refine (dD wn g ca n cap k5 4 S5.out.a (by have := KB5.out; have := HP.out; omega) (by omega) (by omega)).mono ?_;rintro e w6 ⟨b4, rfl, hb4, hu, ha⟩;have S6 := hid (S5.out.pick hu ha);clear hu ha S5;have h4 : b4 = 0 ∨ b4 = 1 ∨ b4 = 2 ∨ b4 = 3 := by omega
   rcases h4 with rfl | rfl | rfl | rfl
   ·clear hb4;go_wp2_with fail;have hK0 : x8 g3 (bQ d5 p5) w6 := ⟨(S6.out.t.x _ (.head _)).1⟩
    refine aI (S := x8 g3 (bQ d5 p5)) 4 (by kernel_rfl) ⟨aC.drew hK0.k⟩ (fun q9 => ?_);simp only [qz, Nat.reduceAdd];obtain ⟨ua, hua⟩ : ∃ u, u = w6.drew := ⟨_, rfl⟩
    have Ta := hid (S6.out.ext (show Below w6.heap.size w6 ua by rw [hua]; exact (Below.refl _ _).drew));rw [← hua] at q9 ⊢;clear hua hK0 S6;refine bT (i := 0) (v := .agg (bQ d5 p5)) (ax rfl) (by kernel_rfl) (by kernel_rfl) (by kernel_rfl) (by kernel_rfl) (fun _ _ _ h => h) (qW (fun w9 hS => hS.k) rfl (by rfl) _ rfl rfl) q9 ?_;try simp only [qq]
    refine ak.go [1] ?_;iterate 1 (refine ak.tk q9 ?_; try simp only [qq])
    refine ak.fin ?_;refine aT 2 fun K hK => ?_
    go_simp;refine (dD ua g ca n cap (k5 + 1) 14 Ta.out.a (by have := KB5.out; have := HP.out; omega) (by omega) (by omega)).mono ?_;rintro e ya ⟨ba, rfl, hba, hu, ha⟩;have Ra := hid (Ta.out.pick hu ha);clear hu ha Ta hba;go_wp2_with fail;refine hK.out _ _ ⟨(Ra.out.t.x _ (.head _)).1⟩ ?_;clear hK K q9;intro q9;try simp only [qq]
    refine aT 3 fun K hK => ?_
    go_simp;refine (uQ w.heap.size d5 p5 J5 H5 (ba : Int) ya Ra.out.t.m).mono ?_;rintro e za ⟨d8, p8, J8, H8, rfl, m8, n8, hb8⟩;have S8 := hid (Ra.out.step (Ra.out.t.swap m8 hb8));clear m8 n8 hb8 Ra;go_wp2_with fail;refine hK.out _ _ ⟨(S8.out.t.x _ (.head _)).1⟩ ?_;clear hK K q9;intro q9;try simp only [qq]
    refine aJ fun K hK => ?_
    rw [if_pos (by rfl)];refine wp_store_row 116 _ _ rfl g3 (bQ d8 p8) rfl rfl 116 (bQ d5 p5) (S8.out.t.x _ (.head _)).1 (by kernel_rfl) rfl (by simp [Value.oneCell']) ?_;refine hK.out _ _ ?_;clear hK K q9;have S9 := hid (show RS w g ca n cap (k5 + 1 + 1) d8 p8 (J8.map (yU ya.heap.size)) H8 [(g3, 116, bQ d8 p8), (w.heap.size, 116, zW)] (za.setRow g3 (bQ d8 p8)) from S8.out.box NE.out);clear S8;obtain ⟨w9, hw9⟩ : ∃ u, u = za.setRow g3 (bQ d8 p8) := ⟨_, rfl⟩
    rw [← hw9] at S9 ⊢;clear hw9;go_wp2_with fail;go_roundw;case rel => exact ⟨nn - 1, _, d8, p8, _, H8, by omega, by rw [show ((nn - 1 : Nat) : Int) = (nn : Int) - 1 by omega], by have := KB5.out; omega, S9.out⟩
    case measure => simp [intOf]; omega
   ·clear hb4;have kW := (S6.out.t.x _ (.head _)).1;go_wp2_with ((with_reducible refine aP g3 (bQ d5 p5) rfl ?_ ?_ ?_); rfl; exact kW);clear kW;refine (Dh w g ca n cap (k5 + 1) d5 p5 J5 H5 _ w6 S6.out (by have := KB5.out; have := HP.out; omega)).mono ?_;rintro e w7 ⟨d7, p7, J7, rfl, hs7, n7⟩;have kW := (hs7.t.x _ (.head _)).1;have S7 := hid (show RS w g ca n cap (k5 + 1 + 1) d7 p7 J7 H5 [(g3, 116, bQ d7 p7), (w.heap.size, 116, zW)] (w7.setRow g3 (bQ d7 p7)) from hs7.box NE.out);clear hs7 n7 S6;go_wp2_with ((with_reducible refine aQ g3 (bQ d5 p5) (bQ d7 p7) rfl rfl ?_ ?_ ?_ ?_ ?_); rfl; rfl; exact kW; simp [Value.oneCell']);clear kW;obtain ⟨wq, hwq⟩ : ∃ u, u = w7.setRow g3 (bQ d7 p7) := ⟨_, rfl⟩
    rw [← hwq] at S7 ⊢;clear hwq;have hK0 : x8 g3 (bQ d7 p7) wq := ⟨(S7.out.t.x _ (.head _)).1⟩
    refine aI (S := x8 g3 (bQ d7 p7)) 4 (by kernel_rfl) ⟨aC.drew hK0.k⟩ (fun q9 => ?_);simp only [qz, Nat.reduceAdd];obtain ⟨ub, hub⟩ : ∃ u, u = wq.drew := ⟨_, rfl⟩
    have Tb := hid (S7.out.ext (show Below wq.heap.size wq ub by rw [hub]; exact (Below.refl _ _).drew));rw [← hub] at q9 ⊢;clear hub hK0 S7;refine bT (i := 0) (v := .agg (bQ d7 p7)) (ax rfl) (by kernel_rfl) (by kernel_rfl) (by kernel_rfl) (by kernel_rfl) (fun _ _ _ h => h) (qW (fun w9 hS => hS.k) rfl (by rfl) _ rfl rfl) q9 ?_;try simp only [qq]
    refine ak.go [1] ?_;iterate 1 (refine ak.tk q9 ?_; try simp only [qq])
    refine ak.fin ?_;refine aT 2 fun K hK => ?_
    go_simp;refine (dD ub g ca n cap (k5 + 1 + 1) 5 Tb.out.a (by have := KB5.out; have := HP.out; omega) (by omega) (by omega)).mono ?_;rintro e yb ⟨bb, rfl, hbb, hu, ha⟩;have Rb := hid (Tb.out.pick hu ha);clear hu ha Tb hbb;go_wp2_with fail;refine hK.out _ _ ⟨(Rb.out.t.x _ (.head _)).1⟩ ?_;clear hK K q9;intro q9;try simp only [qq]
    refine aT 3 fun K hK => ?_
    go_simp;refine (uQ w.heap.size d7 p7 J7 H5 (bb : Int) yb Rb.out.t.m).mono ?_;rintro e zb ⟨d8, p8, J8, H8, rfl, m8, n8, hb8⟩;have S8 := hid (Rb.out.step (Rb.out.t.swap m8 hb8));clear m8 n8 hb8 Rb;go_wp2_with fail;refine hK.out _ _ ⟨(S8.out.t.x _ (.head _)).1⟩ ?_;clear hK K q9;intro q9;try simp only [qq]
    refine aJ fun K hK => ?_
    rw [if_pos (by rfl)];refine wp_store_row 116 _ _ rfl g3 (bQ d8 p8) rfl rfl 116 (bQ d7 p7) (S8.out.t.x _ (.head _)).1 (by kernel_rfl) rfl (by simp [Value.oneCell']) ?_;refine hK.out _ _ ?_;clear hK K q9;have S9 := hid (show RS w g ca n cap (k5 + 1 + 1 + 1) d8 p8 (J8.map (yU yb.heap.size)) H8 [(g3, 116, bQ d8 p8), (w.heap.size, 116, zW)] (zb.setRow g3 (bQ d8 p8)) from S8.out.box NE.out);clear S8;obtain ⟨w9, hw9⟩ : ∃ u, u = zb.setRow g3 (bQ d8 p8) := ⟨_, rfl⟩
    rw [← hw9] at S9 ⊢;clear hw9;go_wp2_with fail;go_roundw;case rel => exact ⟨nn - 1, _, d8, p8, _, H8, by omega, by rw [show ((nn - 1 : Nat) : Int) = (nn : Int) - 1 by omega], by have := KB5.out; omega, S9.out⟩
    case measure => simp [intOf]; omega
   ·clear hb4;have kW := (S6.out.t.x _ (.head _)).1;go_wp2_with ((with_reducible refine aP g3 (bQ d5 p5) rfl ?_ ?_ ?_); rfl; exact kW);clear kW;refine (Dh w g ca n cap (k5 + 1) d5 p5 J5 H5 _ w6 S6.out (by have := KB5.out; have := HP.out; omega)).mono ?_;rintro e w7 ⟨d7, p7, J7, rfl, hs7, n7⟩;have kW := (hs7.t.x _ (.head _)).1;have S7 := hid (show RS w g ca n cap (k5 + 1 + 1) d7 p7 J7 H5 [(g3, 116, bQ d7 p7), (w.heap.size, 116, zW)] (w7.setRow g3 (bQ d7 p7)) from hs7.box NE.out);clear hs7 n7 S6;go_wp2_with ((with_reducible refine aQ g3 (bQ d5 p5) (bQ d7 p7) rfl rfl ?_ ?_ ?_ ?_ ?_); rfl; rfl; exact kW; simp [Value.oneCell']);clear kW;obtain ⟨wq, hwq⟩ : ∃ u, u = w7.setRow g3 (bQ d7 p7) := ⟨_, rfl⟩
    rw [← hwq] at S7 ⊢;clear hwq;have hK0 : x8 g3 (bQ d7 p7) wq := ⟨(S7.out.t.x _ (.head _)).1⟩
    refine aI (S := x8 g3 (bQ d7 p7)) 4 (by kernel_rfl) ⟨aC.drew hK0.k⟩ (fun q9 => ?_);simp only [qz, Nat.reduceAdd];obtain ⟨ub, hub⟩ : ∃ u, u = wq.drew := ⟨_, rfl⟩
    have Tb := hid (S7.out.ext (show Below wq.heap.size wq ub by rw [hub]; exact (Below.refl _ _).drew));rw [← hub] at q9 ⊢;clear hub hK0 S7;refine bT (i := 0) (v := .agg (bQ d7 p7)) (ax rfl) (by kernel_rfl) (by kernel_rfl) (by kernel_rfl) (by kernel_rfl) (fun _ _ _ h => h) (qW (fun w9 hS => hS.k) rfl (by rfl) _ rfl rfl) q9 ?_;try simp only [qq]
    refine ak.go [1] ?_;iterate 1 (refine ak.tk q9 ?_; try simp only [qq])
    refine ak.fin ?_;refine aT 2 fun K hK => ?_
    go_simp;refine (dD ub g ca n cap (k5 + 1 + 1) 5 Tb.out.a (by have := KB5.out; have := HP.out; omega) (by omega) (by omega)).mono ?_;rintro e yb ⟨bb, rfl, hbb, hu, ha⟩;have Rb := hid (Tb.out.pick hu ha);clear hu ha Tb hbb;go_wp2_with fail;refine hK.out _ _ ⟨(Rb.out.t.x _ (.head _)).1⟩ ?_;clear hK K q9;intro q9;try simp only [qq]
    refine aT 3 fun K hK => ?_
    go_simp;refine (uQ w.heap.size d7 p7 J7 H5 (bb : Int) yb Rb.out.t.m).mono ?_;rintro e zb ⟨d8, p8, J8, H8, rfl, m8, n8, hb8⟩;have S8 := hid (Rb.out.step (Rb.out.t.swap m8 hb8));clear m8 n8 hb8 Rb;go_wp2_with fail;refine hK.out _ _ ⟨(S8.out.t.x _ (.head _)).1⟩ ?_;clear hK K q9;intro q9;try simp only [qq]
    refine aJ fun K hK => ?_
    rw [if_pos (by rfl)];refine wp_store_row 116 _ _ rfl g3 (bQ d8 p8) rfl rfl 116 (bQ d7 p7) (S8.out.t.x _ (.head _)).1 (by kernel_rfl) rfl (by simp [Value.oneCell']) ?_;refine hK.out _ _ ?_;clear hK K q9;have S9 := hid (show RS w g ca n cap (k5 + 1 + 1 + 1) d8 p8 (J8.map (yU yb.heap.size)) H8 [(g3, 116, bQ d8 p8), (w.heap.size, 116, zW)] (zb.setRow g3 (bQ d8 p8)) from S8.out.box NE.out);clear S8;obtain ⟨w9, hw9⟩ : ∃ u, u = zb.setRow g3 (bQ d8 p8) := ⟨_, rfl⟩
    rw [← hw9] at S9 ⊢;clear hw9;go_wp2_with fail;go_roundw;case rel => exact ⟨nn - 1, _, d8, p8, _, H8, by omega, by rw [show ((nn - 1 : Nat) : Int) = (nn : Int) - 1 by omega], by have := KB5.out; omega, S9.out⟩
    case measure => simp [intOf]; omega
   clear hb4;go_wp2_with fail;go_roundw;case rel => exact ⟨nn - 1, _, d5, p5, J5, H5, by omega, by rw [show ((nn - 1 : Nat) : Int) = (nn : Int) - 1 by omega], by have := KB5.out; omega, S6.out⟩
   case measure => simp [intOf]; omega
 have e3 : ¬ (0 : Int) < (nn : Int) := by omega
 have u3 : decide ((0 : Int) < (nn : Int)) = false := decide_eq_false e3;have kW := (S1.out.t.x _ (.head _)).1;go_wp2_with ((with_reducible refine aP g3 (bQ d1 p1) rfl ?_ ?_ ?_); rfl; exact kW);clear kW;refine (qQ w.heap.size d1 p1 J1 H1 wo S1.out.t.m).mono ?_;rintro e w7 ⟨p7, J7, H7, rfl, m7, hb7⟩;have S7 := hid (S1.out.step (S1.out.t.swap m7 hb7));have kz := (S7.out.t.x _ (.tail _ (.head _))).1;clear m7 hb7;go_wp2_with ((with_reducible refine aQ w.heap.size zW (bQ d1 p7) rfl rfl ?_ ?_ ?_ ?_ ?_); rfl; rfl; exact kz; simp [Value.oneCell']);have hz := setRow_heap _ w.heap.size _ (bQ d1 p7) _ _ kz;refine az (ty := 116) Try.results81 w.heap.size (bQ d1 p7) _ ?_ ?_ hz Try.underlying116 rfl (by kernel_rfl) ?_
 ·rfl
 ·rfl
 exact ⟨_, _, _, _, k1, rfl, S7.out.step (S7.out.t.ends (.tail _ (.head _)) (fun u hu => absurd hu (by simp))), by omega⟩
end Go.Proofs.Ytjdceoimignnpaa
