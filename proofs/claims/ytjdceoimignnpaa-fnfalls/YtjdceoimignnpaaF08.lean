import Derived.Test.YtjdceoimignnpaaF07
namespace Go.Proofs.Ytjdceoimignnpaa
open Go.ChangeShapes Go.WideShapes Go.ChangeAt Go.RowKit
set_option linter.unusedVariables false
set_option linter.unusedSimpArgs false
set_option maxHeartbeats 16000000
set_option maxRecDepth 20000
variable {X : List (Nat × TypeId × Array Value)} {cap g n p p' : Nat} {ca : Option Addr} {b c w' w0 wr : World}
theorem IY (a b : Nat) (ha : a < 4611686018427387904) (hb : b < 4611686018427387904) : bits .xor .i64 (a : Int) (b : Int) = ((a ^^^ b : Nat) : Int) := by
 have hx : a ^^^ b < 4611686018427387904 := Nat.xor_lt_two_pow (n := 62) ha hb;have h1 : (BitVec.ofInt 64 (a : Int)).toNat = a := by
  rw [BitVec.ofInt_natCast, BitVec.toNat_ofNat]; exact Nat.mod_eq_of_lt (by omega)
 have h2 : (BitVec.ofInt 64 (b : Int)).toNat = b := by
  rw [BitVec.ofInt_natCast, BitVec.toNat_ofNat]; exact Nat.mod_eq_of_lt (by omega)
 show IntKind.i64.wrap ((BitVec.ofInt 64 (a : Int) ^^^ BitVec.ofInt 64 (b : Int)).toNat : Int) = _;rw [BitVec.toNat_xor, h1, h2];obtain ⟨z, hz⟩ : ∃ z, z = a ^^^ b := ⟨_, rfl⟩
 rw [← hz] at hx ⊢;clear hz
 go_arith
structure pO (w : World) (g : Nat) (ca : Option Addr) (n cap p : Nat) : Prop where
 k : aC w g #[.slice ca n cap, .int .i64 (p : Int)] 96
 by_ : ∀ i, i < n → ∃ b off v, ca = some ⟨b, off, none⟩ ∧ b < w.heap.size ∧ b ≠ g ∧ 0 ≤ v ∧ v < 256 ∧ w.cell? ⟨b, off + i, none⟩ = some (.int .u8 v)
 n2 : n ≤ 2000
structure Jz (g : Nat) (w w' : World) : Prop where
 os : w'.os = w.os
 tape : w'.tape = w.tape
 output : w'.output = w.output
 size : w'.heap.size = w.heap.size
 block : ∀ b, b ≠ g → w'.heap[b]? = w.heap[b]?
theorem MF (w : World) (g : Nat) (ca : Option Addr) (n cap p : Nat) (m : Int) (h : pO w g ca n cap p) (hp : p ≤ 1000000000) (hm : m ≤ 1000000) :
  Calls Try.prog 57 #[.pointer (some ⟨g, 0, none⟩), .int .i64 m] w fun e w' => ∃ v : Int, e = .returned (.int .i64 v) ∧ 0 ≤ v ∧ (m ≤ v → v = 0) ∧ Jz g w w' ∧ pO w' g ca n cap (p + 1) := by
 have S := hid h;have n2 := h.n2;have cK := h.k.cell;have fK := h.k.free;have e1 : IntKind.i64.wrap ((p : Int) + 1) = (p : Int) + 1 := by go_arith
 have e2 : IntKind.i64.wrap ((p : Int) + 1 - 1) = (p : Int) := by go_arith
 have e3 : IntKind.i64.wrap (p : Int) = (p : Int) := by go_arith
 obtain ⟨W, hW⟩ : ∃ W, W = w.setCell ⟨g, 1, none⟩ (.int .i64 ((p : Int) + 1)) := ⟨_, rfl⟩
 have U := hid (show Jz g w W by rw [hW]; exact ⟨rfl, rfl, rfl, by simp, fun b hb => heap_setCell_other _ ⟨g, 1, none⟩ b _ hb⟩)
 have A := hid (show pO W g ca n cap (p + 1) by
  rw [hW];refine ⟨?_, fun i hi => ?_, h.n2⟩
  ·have := h.k.set (o := 1) (.int .i64 ((p : Int) + 1));simpa using this
  ·obtain ⟨b, off, v, h1, h2, h3, h4, h5, h6⟩ := h.by_ i hi
   exact ⟨b, off, v, h1, by simpa using h2, h3, h4, h5, (World.cell?_of_block (show (w.setCell ⟨g, 1, none⟩ (.int .i64 ((p : Int) + 1))).heap[(⟨b, off + i, none⟩ : Addr).block]? = w.heap[(⟨b, off + i, none⟩ : Addr).block]? from heap_setCell_other _ ⟨g, 1, none⟩ b _ h3)).trans h6⟩)
 have cW := (show aC W g #[.slice ca n cap, .int .i64 ((p : Int) + 1)] 96 from A.out.k).cell;rw [hW] at cW;clear h;by_cases h1 : m < 1
 ·have u1 : decide (m < 1) = true := decide_eq_true h1;go_enter Try.func57, Try.ntmps57;go_wp2_with fail;rw [← hW];go_ret;exact ⟨0, rfl, by omega, fun _ => rfl, U.out, A.out⟩
 ·have u1 : decide (m < 1) = false := decide_eq_false h1;have hm1 : 1 ≤ m := by omega
  by_cases h2 : n = 0
  ·subst h2;go_enter Try.func57, Try.ntmps57;go_wp2_with fail;rw [← hW];go_ret;exact ⟨0, rfl, by omega, fun _ => rfl, U.out, A.out⟩
  ·have u2 : ((n : Int) == 0) = false := beq_false_of_ne (by omega);by_cases h3 : p < n
   ·have u3 : (p : Int) < (n : Int) := by omega
    have u4 : (0 : Int) ≤ (p : Int) := by omega
    obtain ⟨b, off, v, rfl, _, hbg, v0, v1, cv⟩ := A.out.by_ p h3;rw [hW] at cv;have v3 : IntKind.i64.wrap v = v := by go_arith
    have hmz : (m == 0) = false := beq_false_of_ne (by omega);have hmn : m ≠ 0 := by omega
    go_enter Try.func57, Try.ntmps57;go_wp2_with fail;rw [← hW];go_ret;have r0 := Int.emod_nonneg v hmn;have r1 := Int.emod_lt_of_pos v (show 0 < m by omega);exact ⟨v % m, rfl, r0, fun h => by omega, U.out, A.out⟩
   ·have u3 : ¬ (p : Int) < (n : Int) := by omega
    have u4 : (0 : Int) ≤ (p : Int) := by omega
    have hn0 : ((n : Int) == 0) = false := u2;obtain ⟨q1, hq1⟩ : ∃ q : Nat, q = p % n := ⟨_, rfl⟩
    have l1 : q1 < n := by rw [hq1]; exact Nat.mod_lt _ (by omega)
    have m1 : (p : Int) % (n : Int) = (q1 : Int) := by rw [hq1]; rfl
    have m1t : (p : Int).tmod (n : Int) = (q1 : Int) := by rw [Int.tmod_eq_emod_of_nonneg u4]; exact m1
    obtain ⟨q2, hq2⟩ : ∃ q : Nat, q = (p * 7 + 3) % n := ⟨_, rfl⟩
    have l2 : q2 < n := by rw [hq2]; exact Nat.mod_lt _ (by omega)
    have m2 : ((p : Int) * 7 + 3) % (n : Int) = (q2 : Int) := by rw [hq2]; rfl
    have m2t : ((p : Int) * 7 + 3).tmod (n : Int) = (q2 : Int) := by rw [Int.tmod_eq_emod_of_nonneg (by omega)]; exact m2
    obtain ⟨q3, hq3⟩ : ∃ q : Nat, q = p / n := ⟨_, rfl⟩
    have l3 : q3 ≤ p := by rw [hq3]; exact Nat.div_le_self _ _
    have m3 : (p : Int) / (n : Int) = (q3 : Int) := by rw [hq3]; rfl
    have m3t : (p : Int).tdiv (n : Int) = (q3 : Int) := by rw [Int.tdiv_eq_ediv_of_nonneg u4]; exact m3
    clear hq1 hq2 hq3;obtain ⟨b, off, v, rfl, _, hbg, v0, v1, cv⟩ := A.out.by_ q1 l1;obtain ⟨b2, off2, x, eb, _, _, x0, x1, cx⟩ := A.out.by_ q2 l2;simp only [Option.some.injEq, Addr.mk.injEq, and_true] at eb;obtain ⟨rfl, rfl⟩ := eb;have hmn : m ≠ 0 := by omega
    have i1 : (0 : Int) ≤ (q1 : Int) := by omega
    have i2 : (q1 : Int) < (n : Int) := by omega
    have i3 : (0 : Int) ≤ (q2 : Int) := by omega
    have i4 : (q2 : Int) < (n : Int) := by omega
    have w1 : IntKind.i64.wrap v = v := by go_arith
    have w2 : IntKind.i64.wrap x = x := by go_arith
    have w3 : IntKind.i64.wrap (v * 131) = v * 131 := by go_arith
    have w4 : IntKind.i64.wrap (x * 1117) = x * 1117 := by go_arith
    have w5 : IntKind.i64.wrap ((p : Int) * 7) = (p : Int) * 7 := by go_arith
    have w6 : IntKind.i64.wrap ((p : Int) * 7 + 3) = (p : Int) * 7 + 3 := by go_arith
    have w7 : IntKind.i64.wrap (v * 131 + x * 1117) = v * 131 + x * 1117 := by go_arith
    have w8 : IntKind.i64.wrap ((p : Int) * 29) = (p : Int) * 29 := by go_arith
    have w9 : IntKind.i64.wrap (v * 131 + x * 1117 + (p : Int) * 29) = v * 131 + x * 1117 + (p : Int) * 29 := by go_arith
    have wa : IntKind.i64.wrap ((q3 : Int) * 53) = (q3 : Int) * 53 := by go_arith
    have wb : IntKind.i64.wrap (v * 131 + x * 1117 + (p : Int) * 29 + (q3 : Int) * 53) = v * 131 + x * 1117 + (p : Int) * 29 + (q3 : Int) * 53 := by go_arith
    have wc : IntKind.i64.wrap (q1 : Int) = (q1 : Int) := by go_arith
    have wd : IntKind.i64.wrap (q2 : Int) = (q2 : Int) := by go_arith
    have we : IntKind.i64.wrap (q3 : Int) = (q3 : Int) := by go_arith
    have cK2 := (show aC W g #[.slice (some ⟨b, off, none⟩) n cap, .int .i64 ((p : Int) + 1)] 96 from A.out.k).cell;go_enter Try.func57, Try.ntmps57;go_wp2_with fail;rw [← hW];clear hW cW cK fK
    go_quiet (fail)
    go_wp2_with fail;obtain ⟨X, hX⟩ : ∃ X : Nat, v * 131 + x * 1117 + (p : Int) * 29 + (q3 : Int) * 53 = (X : Int) := ⟨(v * 131 + x * 1117 + (p : Int) * 29 + (q3 : Int) * 53).toNat, by omega⟩
    have hXl : X < 4611686018427387904 := by omega
    rw [hX, show ((X : Int) / 64) = ((X / 64 : Nat) : Int) by omega, IY X (X / 64) hXl (by omega), Int.tmod_eq_emod_of_nonneg (by omega)];go_ret;have r0 := Int.emod_nonneg ((X ^^^ X / 64 : Nat) : Int) hmn;have r1 := Int.emod_lt_of_pos ((X ^^^ X / 64 : Nat) : Int) (show 0 < m by omega);have U2 : Jz g w (W.drewN nq) := ⟨U.out.os, U.out.tape, U.out.output, U.out.size, U.out.block⟩
    have A2 : pO (W.drewN nq) g (some ⟨b, off, none⟩) n cap (p + 1) := ⟨A.out.k, A.out.by_, A.out.n2⟩
    exact ⟨_, rfl, r0, fun h => by omega, U2, A2⟩
/-- nothing old is changed but the reader's block -/
structure sZ (g : Nat) (w w' : World) : Prop where
 os : w'.os = w.os
 tape : w'.tape = w.tape
 output : w'.output = w.output
 size : w.heap.size ≤ w'.heap.size
 block : ∀ b, b < w.heap.size → b ≠ g → w'.heap[b]? = w.heap[b]?
theorem sZ.refl (g : Nat) (w : World) : sZ g w w := ⟨rfl, rfl, rfl, Nat.le_refl _, fun _ _ _ => rfl⟩
theorem sZ.trans {a : World} (h : sZ g a b) (k : sZ g b c) : sZ g a c := ⟨k.os.trans h.os, k.tape.trans h.tape, k.output.trans h.output, Nat.le_trans h.size k.size, fun i hi hg => (k.block i (Nat.lt_of_lt_of_le hi h.size) hg).trans (h.block i hi hg)⟩
theorem sZ.below {a : World} (h : sZ g a b) (k : Below a.heap.size b c) : sZ g a c := ⟨k.os.trans h.os, k.tape.trans h.tape, k.output.trans h.output, Nat.le_trans h.size k.size, fun i hi hg => (k.block i hi).trans (h.block i hi hg)⟩
theorem sZ.ext {a : World} (h : sZ g a b) (k : Below b.heap.size b c) : sZ g a c := h.below (k.mono h.size)
theorem Jz.w {a : World} (h : Jz g a b) : sZ g a b := ⟨h.os, h.tape, h.output, Nat.le_of_eq h.size.symm, fun i _ hg => h.block i hg⟩
theorem pO.same {w : World} (h : pO w g ca n cap p) (hz : w.heap.size ≤ w'.heap.size) (hs : ∀ b, b < w.heap.size → (b = g ∨ ∃ x, ca = some x ∧ b = x.block) → w'.heap[b]? = w.heap[b]?) : pO w' g ca n cap p := by
 refine ⟨(hs g h.k.lt (.inl rfl)).trans h.k, fun i hi => ?_, h.n2⟩;obtain ⟨b, off, v, h1, h2, h3, h4, h5, h6⟩ := h.by_ i hi;exact ⟨b, off, v, h1, Nat.lt_of_lt_of_le h2 hz, h3, h4, h5, (World.cell?_of_block (a := ⟨b, off + i, none⟩) (hs b h2 (.inr ⟨_, h1, rfl⟩))).trans h6⟩
theorem pO.ext {w : World} (h : pO w g ca n cap p) (hb : Below w.heap.size w w') : pO w' g ca n cap p := h.same hb.size fun b hlt _ => hb.block b hlt
theorem pO.low {B : Nat} {w : World} (h : pO w g ca n cap p) (hg : g < B) (hc : ∀ x, ca = some x → x.block < B) (hb : Below B w w') : pO w' g ca n cap p :=
 h.same hb.size fun b _ e => hb.block b (by
  rcases e with rfl | ⟨x, hx, rfl⟩
  ·exact hg
  ·exact hc x hx)
theorem dD (w : World) (g : Nat) (ca : Option Addr) (n cap p : Nat) (m : Int) (h : pO w g ca n cap p) (hp : p ≤ 1000000000) (hm : m ≤ 1000000) (h1 : 1 ≤ m) :
  Calls Try.prog 57 #[.pointer (some ⟨g, 0, none⟩), .int .i64 m] w fun e w' => ∃ v : Nat, e = .returned (.int .i64 (v : Int)) ∧ (v : Int) < m ∧ Jz g w w' ∧ pO w' g ca n cap (p + 1) :=
 (MF w g ca n cap p m h hp hm).mono (by
  rintro e w' ⟨v, rfl, h0, h2, h3, h4⟩;refine ⟨v.toNat, by rw [Int.toNat_of_nonneg h0], ?_, h3, h4⟩;have := fun h => h2 h
  omega)
theorem Et (w : World) (v : Int) (g : Nat) (hg : g = w.heap.size) : (convert 22 9 (.slice (some ⟨g, 0, none⟩) 1 1)).run Try.prog (w.alloc (.cells #[.int .u8 v] 5)) = .ok (.string (strOfNums [v])) (w.alloc (.cells #[.int .u8 v] 5)) :=
 run_convert_bytes_arg (P := Try.prog) (w.alloc (.cells #[.int .u8 v] 5)) 22 5 Try.underlying22 Try.underlying5 g 0 1 1 [v] rfl (fun i hi => by
  have : i = 0 := by omega
  subst this hg;rw [(aC.new w #[.int .u8 v] 5).cell]
  rfl) 9 Try.underlying9
theorem Ja (n : Nat) (w : World) (hn : n < 10) : Calls Try.prog 64 #[.int .i64 (n : Int)] w fun e w' => ∃ t : ByteArray, e = .returned (.string t) ∧ t.size = 1 ∧ Below w.heap.size w w' := by
 have e1 : (n : Int) < 10 := by omega
 have u1 : decide ((n : Int) < 10) = true := decide_eq_true e1;have e2 : IntKind.i64.wrap (48 + (n : Int)) = 48 + (n : Int) := by go_arith
 have e3 : IntKind.u8.wrap (48 + (n : Int)) = 48 + (n : Int) := by go_arith
 have hc := Et w (48 + (n : Int)) w.heap.size rfl;go_enter Try.func64, Try.ntmps64;go_wp2_with fail;go_ret;exact ⟨strOfNums [48 + (n : Int)], rfl, rfl, ae (Below.refl _ _) _⟩
/-- a text drawn -/
theorem textW (w : World) (g : Nat) (ca : Option Addr) (n cap p : Nat) (h : pO w g ca n cap p) (hp : p ≤ 1000000000) :
  Calls Try.prog 79 #[.pointer (some ⟨g, 0, none⟩)] w fun e w' => ∃ t : ByteArray, e = .returned (.string t) ∧ t.size = 2 ∧ sZ g w w' ∧ pO w' g ca n cap (p + 1) := by
 go_enter Try.func79, Try.ntmps79;go_wp2_with fail;refine (dD w g ca n cap p 9 h hp (by omega) (by omega)).mono ?_;rintro e w1 ⟨v, rfl, hv, hu, ha⟩;go_wp2_with fail;refine (Ja v w1 (by omega)).mono ?_;rintro e w2 ⟨t, rfl, ht, hb⟩;have R2 := hid (hu.w.ext hb);have A2 := hid (ha.ext hb);have HT := hid ht;have s1 : ¬ 9223372036854775807 < 1 + t.size := by omega
 clear hu ha hb ht;go_wp2_with fail;go_ret;exact ⟨_, rfl, by show (⟨#[116]⟩ ++ t : ByteArray).size = 2; rw [ByteArray.size_append, HT.out]; rfl, R2.out, A2.out⟩
structure RX (w0 : World) (g : Nat) (ca : Option Addr) (n cap : Nat) (X : List (Nat × TypeId × Array Value)) (p : Nat) (wr : World) : Prop where
 a : pO wr g ca n cap p
 w : sZ g w0 wr
 x : ∀ u ∈ X, aC wr u.1 u.2.2 u.2.1 ∧ w0.heap.size ≤ u.1
 l : g < w0.heap.size
theorem RX.start {w : World} (h : pO w g ca n cap p) : RX w g ca n cap [] p w := ⟨h, sZ.refl _ _, fun u hu => absurd hu (by simp), h.k.lt⟩
theorem RX.rd (h : RX w0 g ca n cap X p wr) (hw : sZ g wr w') (ha : pO w' g ca n cap p') : RX w0 g ca n cap X p' w' :=
 ⟨ha, h.w.trans hw, fun u hu => ⟨(hw.block u.1 (h.x u hu).1.lt (by have := (h.x u hu).2; have := h.l; omega)).trans (h.x u hu).1, (h.x u hu).2⟩, h.l⟩
theorem RX.pick (h : RX w0 g ca n cap X p wr) (hw : Jz g wr w') (ha : pO w' g ca n cap p') : RX w0 g ca n cap X p' w' := h.rd hw.w ha
theorem RX.ext (h : RX w0 g ca n cap X p wr) (hb : Below wr.heap.size wr w') : RX w0 g ca n cap X p w' :=
 ⟨h.a.ext hb, h.w.ext hb, fun u hu => ⟨(h.x u hu).1.ext hb, (h.x u hu).2⟩, h.l⟩
theorem RX.new (h : RX w0 g ca n cap X p wr) (cs : Array Value) (T : TypeId) : RX w0 g ca n cap ((wr.heap.size, T, cs) :: X) p (wr.alloc (.cells cs T)) := by
 have k := h.ext (ae (Below.refl _ _) (.cells cs T));refine ⟨k.a, k.w, fun u hu => ?_, h.l⟩;rcases List.mem_cons.1 hu with rfl | hu
 ·exact ⟨aC.new _ _ _, h.w.size⟩
 ·exact k.x u hu
/-- a box is written: what the caller sees -/
theorem RX.ends (h : RX w0 g ca n cap X p wr) {b : Nat} {T : TypeId} {cs cs' : Array Value} (hb : (b, T, cs) ∈ X) (hc : ∀ x, ca = some x → x.block < w0.heap.size) : sZ g w0 (wr.setRow b cs') ∧ pO (wr.setRow b cs') g ca n cap p := by
 have k := (h.x _ hb).2;have k0 := h.l;exact ⟨h.w.below (ay (Below.refl _ _) k _), h.a.low (B := w0.heap.size) h.l hc (ay (Below.refl _ _) k _)⟩
theorem RX.top {b : Nat} {T : TypeId} {cs cs' : Array Value} (h : RX w0 g ca n cap ((b, T, cs) :: X) p wr) (hc : ∀ x, ca = some x → x.block < w0.heap.size) (hs : ∀ c, c ≠ b → w'.heap[c]? = wr.heap[c]?) (hk : aC w' b cs' T) (hb : Below w0.heap.size wr w') (hX : ∀ u ∈ X, u.1 ≠ b) : RX w0 g ca n cap ((b, T, cs') :: X) p w' := by
 refine ⟨h.a.low h.l hc hb, h.w.below hb, fun u hu => ?_, h.l⟩;rcases List.mem_cons.1 hu with rfl | hu
 ·exact ⟨hk, (h.x _ (.head _)).2⟩
 ·exact ⟨(hs _ (hX u hu)).trans (h.x u (.tail _ hu)).1, (h.x u (.tail _ hu)).2⟩
def dP (w : World) (sa a' : Option Addr) : Prop := ∀ x, a' = some x → (∃ y, sa = some y ∧ y.block = x.block) ∨ w.heap.size ≤ x.block
theorem nG {w : World} (base : Nat) (t ty e : TypeId) (i : TypeInfo) (z : Value) (size bytes : Nat) (ht : Try.prog.underlying t = some (.slice e)) (hi : Try.prog.info? e = some i) (hz : i.zero = some z)
  (hsize : i.size = size) (hby : i.bytes = bytes) (hzs : z.cells.size = size) (hsz : 0 < size)
  (sa : Option Addr) (n c0 : Nat) (xs : List Value) (hown : w.ownsRow base e size (.slice sa n c0) n xs)
  (xa : Option Addr) (m c : Nat) (news : List Value) (hr : aN w xa m c size news) (h1 : ∀ u ∈ news, u.oneCell' = true)
  (h63 : n + m ≤ maxLen) (hbytes : ((n + m) + (n + m) / 4 + 192) * bytes ≤ 281474976710656) (hbase : base ≤ w.heap.size) :
  ∃ a' c' w', (Builtin.append_ #[t, t] ty #[.slice sa n c0, .slice xa m c]).run Try.prog w = .ok (.slice a' (n + m) c') w' ∧ w'.ownsRow base e size (.slice a' (n + m) c') (n + m) (xs ++ news) ∧ w.grownBy w' (Value.slice sa n c0).ownBlock ∧ dP w sa a' := by
 cases xa with
 | none =>
  obtain ⟨rfl, rfl⟩ := hr.nil rfl;have e9 : news = [] := by have := hr.len; simpa using this
  subst e9;exact ⟨sa, c0, w, run_append_owned_none (P := Try.prog) w base t ty e i size ht hi _ n xs hown, by simpa using hown, ⟨rfl, rfl, rfl, Nat.le_refl _, fun _ _ _ => rfl⟩, fun x hx => .inl ⟨x, hx, rfl⟩⟩
 | some ad =>
  have hl := hr.len;have hnews := (hr.cells ad rfl).2;obtain ⟨v', w', hrun, h2, h3, h4⟩ := run_append_own_wide (P := Try.prog) w base t ty e i z size bytes ht hi hz hsize hby hzs hsz _ n xs hown ad m c news hl hnews h1 h63 hbytes hbase;obtain ⟨a', c', rfl⟩ := mg h2;refine ⟨a', c', w', hrun, h2, h3, fun x hx => ?_⟩;subst hx;subst hsize;subst hby;have hsmall : n + m ≤ 9223372036854775807 := by simp only [maxLen] at h63; omega
  rcases hown.2 with ⟨hv, hn0⟩ | ⟨g, cap, cur, hv, hbg, hg, hnc, hcm, hcs, htake⟩
  ·simp only [Value.slice.injEq] at hv;obtain ⟨rfl, rfl, rfl⟩ := hv;by_cases hm : m = 0
   ·have := h4.2 ⟨rfl, hm⟩;simp at this
   have hr2 := run_append_nil (P := Try.prog) w t ty e i z ht hi hz ad m c news hl hnews (by omega) (by omega) (by have hb := hbytes; simp only [Nat.zero_add] at hb; exact Nat.le_trans (Nat.mul_le_mul_right _ (by omega)) hb);rw [hr2] at hrun;simp only [Result.ok.injEq, Value.slice.injEq, Option.some.injEq] at hrun;refine .inr ?_;rw [← hrun.1.1];exact Nat.le_refl _
  simp only [Value.slice.injEq] at hv;obtain ⟨rfl, _, rfl⟩ := hv;by_cases hroom : n + m ≤ c0
  ·have hfit : n * i.size + news.length ≤ cur.size := by rw [hl, hcs, ← Nat.add_mul]; exact Nat.mul_le_mul_right _ hroom
   have hr2 := run_append_room (P := Try.prog) w t ty e i ht hi g n c0 cur hg ad m c news hl hnews h1 hroom hfit;rw [hr2] at hrun;simp only [Result.ok.injEq, Value.slice.injEq, Option.some.injEq] at hrun;refine .inl ⟨_, rfl, ?_⟩;rw [← hrun.1.1]
  have holds : ∀ j u, xs[j]? = some u → w.cell? ((⟨g, 0, none⟩ : Addr).add j) = some u := hown.cells (g := g) rfl
  have hr2 := run_append_grow (P := Try.prog) w t ty e i z ht hi hz ⟨g, 0, none⟩ n c0 xs hown.1 holds ad m c news hl hnews (by omega) (by omega) (growslice_fits_wide (by omega) hbytes);rw [hr2] at hrun;simp only [Result.ok.injEq, Value.slice.injEq, Option.some.injEq] at hrun;refine .inr ?_;rw [← hrun.1.1];exact Nat.le_refl _
theorem lh {dst : Option Tmp} {s x : Operand} {τ : TypeId} {pos : String} {after : Array Edge} {g : Option (Nat × Bool)} {a : Act} {w : World} {K : Act → World → Prop} {Q : Exit → Act → World → Prop}
  (B : Nat) (sa : Option Addr) (n c0 : Nat) (xs : List Value) (xa : Option Addr) (m c : Nat) (news : List Value) (hs : a.eval s = .slice sa n c0) (hx : a.eval x = .slice xa m c) (hown : w.ownsRow B 43 2 (.slice sa n c0) n xs) (hr : aN w xa m c 2 news)
  (h1 : ∀ u ∈ news, u.oneCell' = true) (hN : n + m ≤ 4194304) (hB : B ≤ w.heap.size)
  (h : ∀ a' c' w', w'.ownsRow B 43 2 (.slice a' (n + m) c') (n + m) (xs ++ news) → w.grownBy w' (Value.slice sa n c0).ownBlock → dP w sa a' → K (a.put dst (.slice a' (n + m) c')) w') :
  Oper.wp Try.prog ({ dst := dst, op := .call { callee := .builtin .append, args := #[s, x], argTypes := #[23, 23] }, type := τ, pos := pos, after := after, guard := g } : Oper) a w K Q := by
 obtain ⟨i, q1, q2, q3, q4⟩ := wI;obtain ⟨a', c', w', hrun, h2, h3, h4⟩ := nG (w := w) B 23 τ 43 i (.agg #[.int .i64 0, .string ⟨#[]⟩]) 2 24 Try.underlying23 q1 q2 q3 q4 rfl (by omega) sa n c0 xs hown xa m c news hr h1 (by unfold maxLen; omega) (by omega) hB;unfold Oper.wp execOp;simp only [resolve, invoke, builtin, Sem.run_bind, Sem.run_pure, Result.andThen_ok, List.map_toArray, List.map_cons, List.map_nil, hs, hx, hrun];exact h a' c' w' h2 h3 h4
theorem vg {ops : Array Oper} {rest : List Oper} {dst : Option Tmp} {s x : Operand} {τ : TypeId} {pos : String} {after : Array Edge} {a : Act} {w : World} {Q : Exit → Act → World → Prop}
  (B : Nat) (sa : Option Addr) (n c0 : Nat) (xs : List Value) (xa : Option Addr) (m c : Nat) (news : List Value) (hs : a.eval s = .slice sa n c0) (hx : a.eval x = .slice xa m c) (hown : w.ownsRow B 43 2 (.slice sa n c0) n xs) (hr : aN w xa m c 2 news)
  (h1 : ∀ u ∈ news, u.oneCell' = true) (hN : n + m ≤ 4194304) (hB : B ≤ w.heap.size)
  (h : ∀ a' c' w', w'.ownsRow B 43 2 (.slice a' (n + m) c') (n + m) (xs ++ news) → w.grownBy w' (Value.slice sa n c0).ownBlock → dP w sa a' → wpList Try.prog ops Q rest (a.put dst (.slice a' (n + m) c')) w') :
  wpList Try.prog ops Q ({ dst := dst, op := .call { callee := .builtin .append, args := #[s, x], argTypes := #[23, 23] }, type := τ, pos := pos, after := after, guard := none } :: rest) a w :=
 wpList_plain rfl fun _ hK => lh B sa n c0 xs xa m c news hs hx hown hr h1 hN hB fun a' c' w' h2 h3 h4 => hK _ _ (h a' c' w' h2 h3 h4)
theorem gu {dst : Option Tmp} {s x : Operand} {τ : TypeId} {pos : String} {after : Array Edge} {g : Option (Nat × Bool)} {a : Act} {w : World} {K : Act → World → Prop} {Q : Exit → Act → World → Prop}
  (B : Nat) (sa : Option Addr) (n c0 : Nat) (xs : List Value) (xa : Option Addr) (m c : Nat) (news : List Value) (hs : a.eval s = .slice sa n c0) (hx : a.eval x = .slice xa m c) (hown : w.ownsRow B 3 1 (.slice sa n c0) n xs) (hr : aN w xa m c 1 news)
  (h1 : ∀ u ∈ news, u.oneCell' = true) (hN : n + m ≤ 4194304) (hB : B ≤ w.heap.size)
  (h : ∀ a' c' w', w'.ownsRow B 3 1 (.slice a' (n + m) c') (n + m) (xs ++ news) → w.grownBy w' (Value.slice sa n c0).ownBlock → dP w sa a' → K (a.put dst (.slice a' (n + m) c')) w') :
  Oper.wp Try.prog ({ dst := dst, op := .call { callee := .builtin .append, args := #[s, x], argTypes := #[28, 28] }, type := τ, pos := pos, after := after, guard := g } : Oper) a w K Q := by
 obtain ⟨i, q1, q2, q3, q4⟩ := y7;obtain ⟨a', c', w', hrun, h2, h3, h4⟩ := nG (w := w) B 28 τ 3 i (.int .i64 0) 1 8 Try.underlying28 q1 q2 q3 q4 rfl (by omega) sa n c0 xs hown xa m c news hr h1 (by unfold maxLen; omega) (by omega) hB;unfold Oper.wp execOp;simp only [resolve, invoke, builtin, Sem.run_bind, Sem.run_pure, Result.andThen_ok, List.map_toArray, List.map_cons, List.map_nil, hs, hx, hrun];exact h a' c' w' h2 h3 h4
theorem vU {dst : Option Tmp} {s x : Operand} {τ : TypeId} {pos : String} {after : Array Edge} {g : Option (Nat × Bool)} {a : Act} {w : World} {K : Act → World → Prop} {Q : Exit → Act → World → Prop}
  (B : Nat) (sa : Option Addr) (n c0 : Nat) (xs : List Value) (xa : Option Addr) (m c : Nat) (news : List Value) (hs : a.eval s = .slice sa n c0) (hx : a.eval x = .slice xa m c) (hown : w.ownsRow B 9 1 (.slice sa n c0) n xs) (hr : aN w xa m c 1 news)
  (h1 : ∀ u ∈ news, u.oneCell' = true) (hN : n + m ≤ 4194304) (hB : B ≤ w.heap.size)
  (h : ∀ a' c' w', w'.ownsRow B 9 1 (.slice a' (n + m) c') (n + m) (xs ++ news) → w.grownBy w' (Value.slice sa n c0).ownBlock → dP w sa a' → K (a.put dst (.slice a' (n + m) c')) w') :
  Oper.wp Try.prog ({ dst := dst, op := .call { callee := .builtin .append, args := #[s, x], argTypes := #[27, 27] }, type := τ, pos := pos, after := after, guard := g } : Oper) a w K Q := by
 obtain ⟨i, q1, q2, q3, q4⟩ := yR;obtain ⟨a', c', w', hrun, h2, h3, h4⟩ := nG (w := w) B 27 τ 9 i (.string ⟨#[]⟩) 1 16 Try.underlying27 q1 q2 q3 q4 rfl (by omega) sa n c0 xs hown xa m c news hr h1 (by unfold maxLen; omega) (by omega) hB;unfold Oper.wp execOp;simp only [resolve, invoke, builtin, Sem.run_bind, Sem.run_pure, Result.andThen_ok, List.map_toArray, List.map_cons, List.map_nil, hs, hx, hrun];exact h a' c' w' h2 h3 h4
theorem nI {ops : Array Oper} {rest : List Oper} {dst : Option Tmp} {s x : Operand} {τ : TypeId} {pos : String} {after : Array Edge} {a : Act} {w : World} {Q : Exit → Act → World → Prop}
  (B : Nat) (sa : Option Addr) (n c0 : Nat) (xs : List Value) (xa : Option Addr) (m c : Nat) (news : List Value) (hs : a.eval s = .slice sa n c0) (hx : a.eval x = .slice xa m c) (hown : w.ownsRow B 9 1 (.slice sa n c0) n xs) (hr : aN w xa m c 1 news)
  (h1 : ∀ u ∈ news, u.oneCell' = true) (hN : n + m ≤ 4194304) (hB : B ≤ w.heap.size)
  (h : ∀ a' c' w', w'.ownsRow B 9 1 (.slice a' (n + m) c') (n + m) (xs ++ news) → w.grownBy w' (Value.slice sa n c0).ownBlock → dP w sa a' → wpList Try.prog ops Q rest (a.put dst (.slice a' (n + m) c')) w') :
  wpList Try.prog ops Q ({ dst := dst, op := .call { callee := .builtin .append, args := #[s, x], argTypes := #[27, 27] }, type := τ, pos := pos, after := after, guard := none } :: rest) a w :=
 wpList_plain rfl fun _ hK => vU B sa n c0 xs xa m c news hs hx hown hr h1 hN hB fun a' c' w' h2 h3 h4 => hK _ _ (h a' c' w' h2 h3 h4)
theorem oQ {dst : Option Tmp} {s x : Operand} {τ : TypeId} {pos : String} {after : Array Edge} {g : Option (Nat × Bool)} {a : Act} {w : World} {K : Act → World → Prop} {Q : Exit → Act → World → Prop}
  (B : Nat) (sa : Option Addr) (n c0 : Nat) (xs : List Value) (xa : Option Addr) (m c : Nat) (news : List Value) (hs : a.eval s = .slice sa n c0) (hx : a.eval x = .slice xa m c) (hown : w.ownsRow B 49 8 (.slice sa n c0) n xs) (hr : aN w xa m c 8 news)
  (h1 : ∀ u ∈ news, u.oneCell' = true) (hN : n + m ≤ 4194304) (hB : B ≤ w.heap.size)
  (h : ∀ a' c' w', w'.ownsRow B 49 8 (.slice a' (n + m) c') (n + m) (xs ++ news) → w.grownBy w' (Value.slice sa n c0).ownBlock → dP w sa a' → K (a.put dst (.slice a' (n + m) c')) w') :
  Oper.wp Try.prog ({ dst := dst, op := .call { callee := .builtin .append, args := #[s, x], argTypes := #[26, 26] }, type := τ, pos := pos, after := after, guard := g } : Oper) a w K Q := by
 obtain ⟨i, q1, q2, q3, q4⟩ := uU;obtain ⟨a', c', w', hrun, h2, h3, h4⟩ := nG (w := w) B 26 τ 49 i (.agg #[.int .i64 0, .int .i64 0, .int .i64 0, .int .i64 0, .int .i64 0, .int .i64 0, .string ⟨#[]⟩, .slice none 0 0]) 8 88 Try.underlying26 q1 q2 q3 q4 rfl (by omega) sa n c0 xs hown xa m c news hr h1 (by unfold maxLen; omega) (by omega) hB;unfold Oper.wp execOp;simp only [resolve, invoke, builtin, Sem.run_bind, Sem.run_pure, Result.andThen_ok, List.map_toArray, List.map_cons, List.map_nil, hs, hx, hrun];exact h a' c' w' h2 h3 h4
theorem nM {ops : Array Oper} {rest : List Oper} {dst : Option Tmp} {s x : Operand} {τ : TypeId} {pos : String} {after : Array Edge} {a : Act} {w : World} {Q : Exit → Act → World → Prop}
  (B : Nat) (sa : Option Addr) (n c0 : Nat) (xs : List Value) (xa : Option Addr) (m c : Nat) (news : List Value) (hs : a.eval s = .slice sa n c0) (hx : a.eval x = .slice xa m c) (hown : w.ownsRow B 49 8 (.slice sa n c0) n xs) (hr : aN w xa m c 8 news)
  (h1 : ∀ u ∈ news, u.oneCell' = true) (hN : n + m ≤ 4194304) (hB : B ≤ w.heap.size)
  (h : ∀ a' c' w', w'.ownsRow B 49 8 (.slice a' (n + m) c') (n + m) (xs ++ news) → w.grownBy w' (Value.slice sa n c0).ownBlock → dP w sa a' → wpList Try.prog ops Q rest (a.put dst (.slice a' (n + m) c')) w') :
  wpList Try.prog ops Q ({ dst := dst, op := .call { callee := .builtin .append, args := #[s, x], argTypes := #[26, 26] }, type := τ, pos := pos, after := after, guard := none } :: rest) a w :=
 wpList_plain rfl fun _ hK => oQ B sa n c0 xs xa m c news hs hx hown hr h1 hN hB fun a' c' w' h2 h3 h4 => hK _ _ (h a' c' w' h2 h3 h4)
theorem fF {dst : Option Tmp} {s x : Operand} {τ : TypeId} {pos : String} {after : Array Edge} {g : Option (Nat × Bool)} {a : Act} {w : World} {K : Act → World → Prop} {Q : Exit → Act → World → Prop}
  (B : Nat) (sa : Option Addr) (n c0 : Nat) (xs : List Value) (xa : Option Addr) (m c : Nat) (news : List Value) (hs : a.eval s = .slice sa n c0) (hx : a.eval x = .slice xa m c) (hown : w.ownsRow B 69 2 (.slice sa n c0) n xs) (hr : aN w xa m c 2 news)
  (h1 : ∀ u ∈ news, u.oneCell' = true) (hN : n + m ≤ 4194304) (hB : B ≤ w.heap.size)
  (h : ∀ a' c' w', w'.ownsRow B 69 2 (.slice a' (n + m) c') (n + m) (xs ++ news) → w.grownBy w' (Value.slice sa n c0).ownBlock → dP w sa a' → K (a.put dst (.slice a' (n + m) c')) w') :
  Oper.wp Try.prog ({ dst := dst, op := .call { callee := .builtin .append, args := #[s, x], argTypes := #[29, 29] }, type := τ, pos := pos, after := after, guard := g } : Oper) a w K Q := by
 obtain ⟨i, q1, q2, q3, q4⟩ := yD;obtain ⟨a', c', w', hrun, h2, h3, h4⟩ := nG (w := w) B 29 τ 69 i (.agg #[.int .i64 0, .slice none 0 0]) 2 32 Try.underlying29 q1 q2 q3 q4 rfl (by omega) sa n c0 xs hown xa m c news hr h1 (by unfold maxLen; omega) (by omega) hB;unfold Oper.wp execOp;simp only [resolve, invoke, builtin, Sem.run_bind, Sem.run_pure, Result.andThen_ok, List.map_toArray, List.map_cons, List.map_nil, hs, hx, hrun];exact h a' c' w' h2 h3 h4
end Go.Proofs.Ytjdceoimignnpaa
