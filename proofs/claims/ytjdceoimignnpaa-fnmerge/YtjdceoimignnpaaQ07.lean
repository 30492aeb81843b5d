import Derived.Test.YtjdceoimignnpaaQ06
namespace Go.Proofs.Ytjdceoimignnpaa
open Go.ChangeShapes Go.WideShapes Go.ChangeAt Go.RowKit
set_option linter.unusedVariables false
set_option linter.unusedSimpArgs false
set_option maxHeartbeats 16000000
set_option maxRecDepth 20000
variable {X : List (Nat × TypeId × Array Value)} {cap g n p p' : Nat} {ca : Option Addr} {b c w' w0 wr : World}
/-- nothing old is changed but the reader's block -/
structure RdW (g : Nat) (w w' : World) : Prop where
 os : w'.os = w.os
 tape : w'.tape = w.tape
 output : w'.output = w.output
 size : w.heap.size ≤ w'.heap.size
 block : ∀ b, b < w.heap.size → b ≠ g → w'.heap[b]? = w.heap[b]?
theorem RdW.refl (g : Nat) (w : World) : RdW g w w := ⟨rfl, rfl, rfl, Nat.le_refl _, fun _ _ _ => rfl⟩
theorem RdW.trans {a : World} (h : RdW g a b) (k : RdW g b c) : RdW g a c := ⟨k.os.trans h.os, k.tape.trans h.tape, k.output.trans h.output, Nat.le_trans h.size k.size, fun i hi hg => (k.block i (Nat.lt_of_lt_of_le hi h.size) hg).trans (h.block i hi hg)⟩
theorem RdW.below {a : World} (h : RdW g a b) (k : Below a.heap.size b c) : RdW g a c := ⟨k.os.trans h.os, k.tape.trans h.tape, k.output.trans h.output, Nat.le_trans h.size k.size, fun i hi hg => (k.block i hi).trans (h.block i hi hg)⟩
theorem RdW.ext {a : World} (h : RdW g a b) (k : Below b.heap.size b c) : RdW g a c := h.below (k.mono h.size)
theorem RdU.w {a : World} (h : RdU g a b) : RdW g a b := ⟨h.os, h.tape, h.output, Nat.le_of_eq h.size.symm, fun i _ hg => h.block i hg⟩
theorem RdA.same {w : World} (h : RdA w g ca n cap p) (hz : w.heap.size ≤ w'.heap.size) (hs : ∀ b, b < w.heap.size → (b = g ∨ ∃ x, ca = some x ∧ b = x.block) → w'.heap[b]? = w.heap[b]?) : RdA w' g ca n cap p := by
 refine ⟨(hs g h.k.lt (.inl rfl)).trans h.k, fun i hi => ?_, h.n2⟩;obtain ⟨b, off, v, h1, h2, h3, h4, h5, h6⟩ := h.by_ i hi;exact ⟨b, off, v, h1, Nat.lt_of_lt_of_le h2 hz, h3, h4, h5, (World.cell?_of_block (a := ⟨b, off + i, none⟩) (hs b h2 (.inr ⟨_, h1, rfl⟩))).trans h6⟩
theorem RdA.ext {w : World} (h : RdA w g ca n cap p) (hb : Below w.heap.size w w') : RdA w' g ca n cap p := h.same hb.size fun b hlt _ => hb.block b hlt
theorem RdA.low {B : Nat} {w : World} (h : RdA w g ca n cap p) (hg : g < B) (hc : ∀ x, ca = some x → x.block < B) (hb : Below B w w') : RdA w' g ca n cap p :=
 h.same hb.size fun b _ e => hb.block b (by
  rcases e with rfl | ⟨x, hx, rfl⟩
  ·exact hg
  ·exact hc x hx)
theorem pickW (w : World) (g : Nat) (ca : Option Addr) (n cap p : Nat) (m : Int) (h : RdA w g ca n cap p) (hp : p ≤ 1000000000) (hm : m ≤ 1000000) (h1 : 1 ≤ m) :
  Calls Try.prog 57 #[.pointer (some ⟨g, 0, none⟩), .int .i64 m] w fun e w' => ∃ v : Nat, e = .returned (.int .i64 (v : Int)) ∧ (v : Int) < m ∧ RdU g w w' ∧ RdA w' g ca n cap (p + 1) :=
 (pickN w g ca n cap p m h hp hm).mono (by
  rintro e w' ⟨v, rfl, h0, h2, h3, h4⟩;refine ⟨v.toNat, by rw [Int.toNat_of_nonneg h0], ?_, h3, h4⟩;have := fun h => h2 h
  omega)
theorem byte_conv (w : World) (v : Int) (g : Nat) (hg : g = w.heap.size) : (convert 22 9 (.slice (some ⟨g, 0, none⟩) 1 1)).run Try.prog (w.alloc (.cells #[.int .u8 v] 5)) = .ok (.string (strOfNums [v])) (w.alloc (.cells #[.int .u8 v] 5)) :=
 run_convert_bytes_arg (P := Try.prog) (w.alloc (.cells #[.int .u8 v] 5)) 22 5 Try.underlying22 Try.underlying5 g 0 1 1 [v] rfl (fun i hi => by
  have : i = 0 := by omega
  subst this hg;rw [(Blk.new w #[.int .u8 v] 5).cell]
  rfl) 9 Try.underlying9
theorem dec1 (n : Nat) (w : World) (hn : n < 10) : Calls Try.prog 64 #[.int .i64 (n : Int)] w fun e w' => ∃ t : ByteArray, e = .returned (.string t) ∧ t.size = 1 ∧ Below w.heap.size w w' := by
 have e1 : (n : Int) < 10 := by omega
 have u1 : decide ((n : Int) < 10) = true := decide_eq_true e1;have e2 : IntKind.i64.wrap (48 + (n : Int)) = 48 + (n : Int) := by go_arith
 have e3 : IntKind.u8.wrap (48 + (n : Int)) = 48 + (n : Int) := by go_arith
 have hc := byte_conv w (48 + (n : Int)) w.heap.size rfl;go_enter Try.func64, Try.ntmps64;go_wp2_with fail;go_ret;exact ⟨strOfNums [48 + (n : Int)], rfl, rfl, ext_alloc (Below.refl _ _) _⟩
/-- a text drawn -/
theorem textW (w : World) (g : Nat) (ca : Option Addr) (n cap p : Nat) (h : RdA w g ca n cap p) (hp : p ≤ 1000000000) :
  Calls Try.prog 79 #[.pointer (some ⟨g, 0, none⟩)] w fun e w' => ∃ t : ByteArray, e = .returned (.string t) ∧ t.size = 2 ∧ RdW g w w' ∧ RdA w' g ca n cap (p + 1) := by
 go_enter Try.func79, Try.ntmps79;go_wp2_with fail;refine (pickW w g ca n cap p 9 h hp (by omega) (by omega)).mono ?_;rintro e w1 ⟨v, rfl, hv, hu, ha⟩;go_wp2_with fail;refine (dec1 v w1 (by omega)).mono ?_;rintro e w2 ⟨t, rfl, ht, hb⟩;have R2 := hid (hu.w.ext hb);have A2 := hid (ha.ext hb);have HT := hid ht;have s1 : ¬ 9223372036854775807 < 1 + t.size := by omega
 clear hu ha hb ht;go_wp2_with fail;go_ret;exact ⟨_, rfl, by show (⟨#[116]⟩ ++ t : ByteArray).size = 2; rw [ByteArray.size_append, HT.out]; rfl, R2.out, A2.out⟩
structure RX (w0 : World) (g : Nat) (ca : Option Addr) (n cap : Nat) (X : List (Nat × TypeId × Array Value)) (p : Nat) (wr : World) : Prop where
 a : RdA wr g ca n cap p
 w : RdW g w0 wr
 x : ∀ u ∈ X, Blk wr u.1 u.2.2 u.2.1 ∧ w0.heap.size ≤ u.1
 l : g < w0.heap.size
theorem RX.start {w : World} (h : RdA w g ca n cap p) : RX w g ca n cap [] p w := ⟨h, RdW.refl _ _, fun u hu => absurd hu (by simp), h.k.lt⟩
theorem RX.rd (h : RX w0 g ca n cap X p wr) (hw : RdW g wr w') (ha : RdA w' g ca n cap p') : RX w0 g ca n cap X p' w' :=
 ⟨ha, h.w.trans hw, fun u hu => ⟨(hw.block u.1 (h.x u hu).1.lt (by have := (h.x u hu).2; have := h.l; omega)).trans (h.x u hu).1, (h.x u hu).2⟩, h.l⟩
theorem RX.pick (h : RX w0 g ca n cap X p wr) (hw : RdU g wr w') (ha : RdA w' g ca n cap p') : RX w0 g ca n cap X p' w' := h.rd hw.w ha
theorem RX.ext (h : RX w0 g ca n cap X p wr) (hb : Below wr.heap.size wr w') : RX w0 g ca n cap X p w' :=
 ⟨h.a.ext hb, h.w.ext hb, fun u hu => ⟨(h.x u hu).1.ext hb, (h.x u hu).2⟩, h.l⟩
theorem RX.new (h : RX w0 g ca n cap X p wr) (cs : Array Value) (T : TypeId) : RX w0 g ca n cap ((wr.heap.size, T, cs) :: X) p (wr.alloc (.cells cs T)) := by
 have k := h.ext (ext_alloc (Below.refl _ _) (.cells cs T));refine ⟨k.a, k.w, fun u hu => ?_, h.l⟩;rcases List.mem_cons.1 hu with rfl | hu
 ·exact ⟨Blk.new _ _ _, h.w.size⟩
 ·exact k.x u hu
/-- a box is written: what the caller sees -/
theorem RX.ends (h : RX w0 g ca n cap X p wr) {b : Nat} {T : TypeId} {cs cs' : Array Value} (hb : (b, T, cs) ∈ X) (hc : ∀ x, ca = some x → x.block < w0.heap.size) : RdW g w0 (wr.setRow b cs') ∧ RdA (wr.setRow b cs') g ca n cap p := by
 have k := (h.x _ hb).2;have k0 := h.l;exact ⟨h.w.below (below_setRow' (Below.refl _ _) k _), h.a.low (B := w0.heap.size) h.l hc (below_setRow' (Below.refl _ _) k _)⟩
theorem RX.top {b : Nat} {T : TypeId} {cs cs' : Array Value} (h : RX w0 g ca n cap ((b, T, cs) :: X) p wr) (hc : ∀ x, ca = some x → x.block < w0.heap.size) (hs : ∀ c, c ≠ b → w'.heap[c]? = wr.heap[c]?) (hk : Blk w' b cs' T) (hb : Below w0.heap.size wr w') (hX : ∀ u ∈ X, u.1 ≠ b) : RX w0 g ca n cap ((b, T, cs') :: X) p w' := by
 refine ⟨h.a.low h.l hc hb, h.w.below hb, fun u hu => ?_, h.l⟩;rcases List.mem_cons.1 hu with rfl | hu
 ·exact ⟨hk, (h.x _ (.head _)).2⟩
 ·exact ⟨(hs _ (hX u hu)).trans (h.x u (.tail _ hu)).1, (h.x u (.tail _ hu)).2⟩
theorem RX.sub {X' : List (Nat × TypeId × Array Value)} (h : RX w0 g ca n cap X p wr) (hX : ∀ u ∈ X', u ∈ X) : RX w0 g ca n cap X' p wr := ⟨h.a, h.w, fun u hu => h.x u (hX u hu), h.l⟩
def NewOr (w : World) (sa a' : Option Addr) : Prop := ∀ x, a' = some x → (∃ y, sa = some y ∧ y.block = x.block) ∨ w.heap.size ≤ x.block
theorem run_app {w : World} (base : Nat) (t ty e : TypeId) (i : TypeInfo) (z : Value) (size bytes : Nat) (ht : Try.prog.underlying t = some (.slice e)) (hi : Try.prog.info? e = some i) (hz : i.zero = some z)
  (hsize : i.size = size) (hby : i.bytes = bytes) (hzs : z.cells.size = size) (hsz : 0 < size)
  (sa : Option Addr) (n c0 : Nat) (xs : List Value) (hown : w.ownsRow base e size (.slice sa n c0) n xs)
  (xa : Option Addr) (m c : Nat) (news : List Value) (hr : ReadAt w xa m c size news) (h1 : ∀ u ∈ news, u.oneCell' = true)
  (h63 : n + m ≤ maxLen) (hbytes : ((n + m) + (n + m) / 4 + 192) * bytes ≤ 281474976710656) (hbase : base ≤ w.heap.size) :
  ∃ a' c' w', (Builtin.append_ #[t, t] ty #[.slice sa n c0, .slice xa m c]).run Try.prog w = .ok (.slice a' (n + m) c') w' ∧ w'.ownsRow base e size (.slice a' (n + m) c') (n + m) (xs ++ news) ∧ w.grownBy w' (Value.slice sa n c0).ownBlock ∧ NewOr w sa a' := by
 cases xa with
 | none =>
  obtain ⟨rfl, rfl⟩ := hr.nil rfl;have e9 : news = [] := by have := hr.len; simpa using this
  subst e9;exact ⟨sa, c0, w, run_append_owned_none (P := Try.prog) w base t ty e i size ht hi _ n xs hown, by simpa using hown, ⟨rfl, rfl, rfl, Nat.le_refl _, fun _ _ _ => rfl⟩, fun x hx => .inl ⟨x, hx, rfl⟩⟩
 | some ad =>
  have hl := hr.len;have hnews := (hr.cells ad rfl).2;obtain ⟨v', w', hrun, h2, h3, h4⟩ := run_append_own_wide (P := Try.prog) w base t ty e i z size bytes ht hi hz hsize hby hzs hsz _ n xs hown ad m c news hl hnews h1 h63 hbytes hbase;obtain ⟨a', c', rfl⟩ := own_slice h2;refine ⟨a', c', w', hrun, h2, h3, fun x hx => ?_⟩;subst hx;subst hsize;subst hby;have hsmall : n + m ≤ 9223372036854775807 := by simp only [maxLen] at h63; omega
  rcases hown.2 with ⟨hv, hn0⟩ | ⟨g, cap, cur, hv, hbg, hg, hnc, hcm, hcs, htake⟩
  ·simp only [Value.slice.injEq] at hv;obtain ⟨rfl, rfl, rfl⟩ := hv;by_cases hm : m = 0
   ·have := h4.2 ⟨rfl, hm⟩;simp at this
   have hr2 := run_append_nil (P := Try.prog) w t ty e i z ht hi hz ad m c news hl hnews (by omega) (by omega) (by have hb := hbytes; simp only [Nat.zero_add] at hb; exact Nat.le_trans (Nat.mul_le_mul_right _ (by omega)) hb);rw [hr2] at hrun;simp only [Result.ok.injEq, Value.slice.injEq, Option.some.injEq] at hrun;refine .inr ?_;rw [← hrun.1.1];exact Nat.le_refl _
  simp only [Value.slice.injEq] at hv;obtain ⟨rfl, _, rfl⟩ := hv;by_cases hroom : n + m ≤ c0
  ·have hfit : n * i.size + news.length ≤ cur.size := by rw [hl, hcs, ← Nat.add_mul]; exact Nat.mul_le_mul_right _ hroom
   have hr2 := run_append_room (P := Try.prog) w t ty e i ht hi g n c0 cur hg ad m c news hl hnews h1 hroom hfit;rw [hr2] at hrun;simp only [Result.ok.injEq, Value.slice.injEq, Option.some.injEq] at hrun;refine .inl ⟨_, rfl, ?_⟩;rw [← hrun.1.1]
  have holds : ∀ j u, xs[j]? = some u → w.cell? ((⟨g, 0, none⟩ : Addr).add j) = some u := hown.cells (g := g) rfl
  have hr2 := run_append_grow (P := Try.prog) w t ty e i z ht hi hz ⟨g, 0, none⟩ n c0 xs hown.1 holds ad m c news hl hnews (by omega) (by omega) (growslice_fits_wide (by omega) hbytes);rw [hr2] at hrun;simp only [Result.ok.injEq, Value.slice.injEq, Option.some.injEq] at hrun;refine .inr ?_;rw [← hrun.1.1];exact Nat.le_refl _
theorem wp_appS {dst : Option Tmp} {s x : Operand} {τ : TypeId} {pos : String} {after : Array Edge} {g : Option (Nat × Bool)} {a : Act} {w : World} {K : Act → World → Prop} {Q : Exit → Act → World → Prop}
  (B : Nat) (sa : Option Addr) (n c0 : Nat) (xs : List Value) (xa : Option Addr) (m c : Nat) (news : List Value) (hs : a.eval s = .slice sa n c0) (hx : a.eval x = .slice xa m c) (hown : w.ownsRow B 43 2 (.slice sa n c0) n xs) (hr : ReadAt w xa m c 2 news)
  (h1 : ∀ u ∈ news, u.oneCell' = true) (hN : n + m ≤ 4194304) (hB : B ≤ w.heap.size)
  (h : ∀ a' c' w', w'.ownsRow B 43 2 (.slice a' (n + m) c') (n + m) (xs ++ news) → w.grownBy w' (Value.slice sa n c0).ownBlock → NewOr w sa a' → K (a.put dst (.slice a' (n + m) c')) w') :
  Oper.wp Try.prog ({ dst := dst, op := .call { callee := .builtin .append, args := #[s, x], argTypes := #[23, 23] }, type := τ, pos := pos, after := after, guard := g } : Oper) a w K Q := by
 obtain ⟨i, q1, q2, q3, q4⟩ := slotInfo;obtain ⟨a', c', w', hrun, h2, h3, h4⟩ := run_app (w := w) B 23 τ 43 i (.agg #[.int .i64 0, .string ⟨#[]⟩]) 2 24 Try.underlying23 q1 q2 q3 q4 rfl (by omega) sa n c0 xs hown xa m c news hr h1 (by unfold maxLen; omega) (by omega) hB;unfold Oper.wp execOp;simp only [resolve, invoke, builtin, Sem.run_bind, Sem.run_pure, Result.andThen_ok, List.map_toArray, List.map_cons, List.map_nil, hs, hx, hrun];exact h a' c' w' h2 h3 h4
theorem wpList_appS {ops : Array Oper} {rest : List Oper} {dst : Option Tmp} {s x : Operand} {τ : TypeId} {pos : String} {after : Array Edge} {a : Act} {w : World} {Q : Exit → Act → World → Prop}
  (B : Nat) (sa : Option Addr) (n c0 : Nat) (xs : List Value) (xa : Option Addr) (m c : Nat) (news : List Value) (hs : a.eval s = .slice sa n c0) (hx : a.eval x = .slice xa m c) (hown : w.ownsRow B 43 2 (.slice sa n c0) n xs) (hr : ReadAt w xa m c 2 news)
  (h1 : ∀ u ∈ news, u.oneCell' = true) (hN : n + m ≤ 4194304) (hB : B ≤ w.heap.size)
  (h : ∀ a' c' w', w'.ownsRow B 43 2 (.slice a' (n + m) c') (n + m) (xs ++ news) → w.grownBy w' (Value.slice sa n c0).ownBlock → NewOr w sa a' → wpList Try.prog ops Q rest (a.put dst (.slice a' (n + m) c')) w') :
  wpList Try.prog ops Q ({ dst := dst, op := .call { callee := .builtin .append, args := #[s, x], argTypes := #[23, 23] }, type := τ, pos := pos, after := after, guard := none } :: rest) a w :=
 wpList_plain rfl fun _ hK => wp_appS B sa n c0 xs xa m c news hs hx hown hr h1 hN hB fun a' c' w' h2 h3 h4 => hK _ _ (h a' c' w' h2 h3 h4)
theorem wp_appI {dst : Option Tmp} {s x : Operand} {τ : TypeId} {pos : String} {after : Array Edge} {g : Option (Nat × Bool)} {a : Act} {w : World} {K : Act → World → Prop} {Q : Exit → Act → World → Prop}
  (B : Nat) (sa : Option Addr) (n c0 : Nat) (xs : List Value) (xa : Option Addr) (m c : Nat) (news : List Value) (hs : a.eval s = .slice sa n c0) (hx : a.eval x = .slice xa m c) (hown : w.ownsRow B 3 1 (.slice sa n c0) n xs) (hr : ReadAt w xa m c 1 news)
  (h1 : ∀ u ∈ news, u.oneCell' = true) (hN : n + m ≤ 4194304) (hB : B ≤ w.heap.size)
  (h : ∀ a' c' w', w'.ownsRow B 3 1 (.slice a' (n + m) c') (n + m) (xs ++ news) → w.grownBy w' (Value.slice sa n c0).ownBlock → NewOr w sa a' → K (a.put dst (.slice a' (n + m) c')) w') :
  Oper.wp Try.prog ({ dst := dst, op := .call { callee := .builtin .append, args := #[s, x], argTypes := #[28, 28] }, type := τ, pos := pos, after := after, guard := g } : Oper) a w K Q := by
 obtain ⟨i, q1, q2, q3, q4⟩ := info_ints;obtain ⟨a', c', w', hrun, h2, h3, h4⟩ := run_app (w := w) B 28 τ 3 i (.int .i64 0) 1 8 Try.underlying28 q1 q2 q3 q4 rfl (by omega) sa n c0 xs hown xa m c news hr h1 (by unfold maxLen; omega) (by omega) hB;unfold Oper.wp execOp;simp only [resolve, invoke, builtin, Sem.run_bind, Sem.run_pure, Result.andThen_ok, List.map_toArray, List.map_cons, List.map_nil, hs, hx, hrun];exact h a' c' w' h2 h3 h4
theorem wp_appT {dst : Option Tmp} {s x : Operand} {τ : TypeId} {pos : String} {after : Array Edge} {g : Option (Nat × Bool)} {a : Act} {w : World} {K : Act → World → Prop} {Q : Exit → Act → World → Prop}
  (B : Nat) (sa : Option Addr) (n c0 : Nat) (xs : List Value) (xa : Option Addr) (m c : Nat) (news : List Value) (hs : a.eval s = .slice sa n c0) (hx : a.eval x = .slice xa m c) (hown : w.ownsRow B 9 1 (.slice sa n c0) n xs) (hr : ReadAt w xa m c 1 news)
  (h1 : ∀ u ∈ news, u.oneCell' = true) (hN : n + m ≤ 4194304) (hB : B ≤ w.heap.size)
  (h : ∀ a' c' w', w'.ownsRow B 9 1 (.slice a' (n + m) c') (n + m) (xs ++ news) → w.grownBy w' (Value.slice sa n c0).ownBlock → NewOr w sa a' → K (a.put dst (.slice a' (n + m) c')) w') :
  Oper.wp Try.prog ({ dst := dst, op := .call { callee := .builtin .append, args := #[s, x], argTypes := #[27, 27] }, type := τ, pos := pos, after := after, guard := g } : Oper) a w K Q := by
 obtain ⟨i, q1, q2, q3, q4⟩ := info_strs;obtain ⟨a', c', w', hrun, h2, h3, h4⟩ := run_app (w := w) B 27 τ 9 i (.string ⟨#[]⟩) 1 16 Try.underlying27 q1 q2 q3 q4 rfl (by omega) sa n c0 xs hown xa m c news hr h1 (by unfold maxLen; omega) (by omega) hB;unfold Oper.wp execOp;simp only [resolve, invoke, builtin, Sem.run_bind, Sem.run_pure, Result.andThen_ok, List.map_toArray, List.map_cons, List.map_nil, hs, hx, hrun];exact h a' c' w' h2 h3 h4
theorem wpList_appT {ops : Array Oper} {rest : List Oper} {dst : Option Tmp} {s x : Operand} {τ : TypeId} {pos : String} {after : Array Edge} {a : Act} {w : World} {Q : Exit → Act → World → Prop}
  (B : Nat) (sa : Option Addr) (n c0 : Nat) (xs : List Value) (xa : Option Addr) (m c : Nat) (news : List Value) (hs : a.eval s = .slice sa n c0) (hx : a.eval x = .slice xa m c) (hown : w.ownsRow B 9 1 (.slice sa n c0) n xs) (hr : ReadAt w xa m c 1 news)
  (h1 : ∀ u ∈ news, u.oneCell' = true) (hN : n + m ≤ 4194304) (hB : B ≤ w.heap.size)
  (h : ∀ a' c' w', w'.ownsRow B 9 1 (.slice a' (n + m) c') (n + m) (xs ++ news) → w.grownBy w' (Value.slice sa n c0).ownBlock → NewOr w sa a' → wpList Try.prog ops Q rest (a.put dst (.slice a' (n + m) c')) w') :
  wpList Try.prog ops Q ({ dst := dst, op := .call { callee := .builtin .append, args := #[s, x], argTypes := #[27, 27] }, type := τ, pos := pos, after := after, guard := none } :: rest) a w :=
 wpList_plain rfl fun _ hK => wp_appT B sa n c0 xs xa m c news hs hx hown hr h1 hN hB fun a' c' w' h2 h3 h4 => hK _ _ (h a' c' w' h2 h3 h4)
theorem wp_appM {dst : Option Tmp} {s x : Operand} {τ : TypeId} {pos : String} {after : Array Edge} {g : Option (Nat × Bool)} {a : Act} {w : World} {K : Act → World → Prop} {Q : Exit → Act → World → Prop}
  (B : Nat) (sa : Option Addr) (n c0 : Nat) (xs : List Value) (xa : Option Addr) (m c : Nat) (news : List Value) (hs : a.eval s = .slice sa n c0) (hx : a.eval x = .slice xa m c) (hown : w.ownsRow B 49 8 (.slice sa n c0) n xs) (hr : ReadAt w xa m c 8 news)
  (h1 : ∀ u ∈ news, u.oneCell' = true) (hN : n + m ≤ 4194304) (hB : B ≤ w.heap.size)
  (h : ∀ a' c' w', w'.ownsRow B 49 8 (.slice a' (n + m) c') (n + m) (xs ++ news) → w.grownBy w' (Value.slice sa n c0).ownBlock → NewOr w sa a' → K (a.put dst (.slice a' (n + m) c')) w') :
  Oper.wp Try.prog ({ dst := dst, op := .call { callee := .builtin .append, args := #[s, x], argTypes := #[26, 26] }, type := τ, pos := pos, after := after, guard := g } : Oper) a w K Q := by
 obtain ⟨i, q1, q2, q3, q4⟩ := info_msgs;obtain ⟨a', c', w', hrun, h2, h3, h4⟩ := run_app (w := w) B 26 τ 49 i (.agg #[.int .i64 0, .int .i64 0, .int .i64 0, .int .i64 0, .int .i64 0, .int .i64 0, .string ⟨#[]⟩, .slice none 0 0]) 8 88 Try.underlying26 q1 q2 q3 q4 rfl (by omega) sa n c0 xs hown xa m c news hr h1 (by unfold maxLen; omega) (by omega) hB;unfold Oper.wp execOp;simp only [resolve, invoke, builtin, Sem.run_bind, Sem.run_pure, Result.andThen_ok, List.map_toArray, List.map_cons, List.map_nil, hs, hx, hrun];exact h a' c' w' h2 h3 h4
theorem wpList_appM {ops : Array Oper} {rest : List Oper} {dst : Option Tmp} {s x : Operand} {τ : TypeId} {pos : String} {after : Array Edge} {a : Act} {w : World} {Q : Exit → Act → World → Prop}
  (B : Nat) (sa : Option Addr) (n c0 : Nat) (xs : List Value) (xa : Option Addr) (m c : Nat) (news : List Value) (hs : a.eval s = .slice sa n c0) (hx : a.eval x = .slice xa m c) (hown : w.ownsRow B 49 8 (.slice sa n c0) n xs) (hr : ReadAt w xa m c 8 news)
  (h1 : ∀ u ∈ news, u.oneCell' = true) (hN : n + m ≤ 4194304) (hB : B ≤ w.heap.size)
  (h : ∀ a' c' w', w'.ownsRow B 49 8 (.slice a' (n + m) c') (n + m) (xs ++ news) → w.grownBy w' (Value.slice sa n c0).ownBlock → NewOr w sa a' → wpList Try.prog ops Q rest (a.put dst (.slice a' (n + m) c')) w') :
  wpList Try.prog ops Q ({ dst := dst, op := .call { callee := .builtin .append, args := #[s, x], argTypes := #[26, 26] }, type := τ, pos := pos, after := after, guard := none } :: rest) a w :=
 wpList_plain rfl fun _ hK => wp_appM B sa n c0 xs xa m c news hs hx hown hr h1 hN hB fun a' c' w' h2 h3 h4 => hK _ _ (h a' c' w' h2 h3 h4)
theorem wp_appA {dst : Option Tmp} {s x : Operand} {τ : TypeId} {pos : String} {after : Array Edge} {g : Option (Nat × Bool)} {a : Act} {w : World} {K : Act → World → Prop} {Q : Exit → Act → World → Prop}
  (B : Nat) (sa : Option Addr) (n c0 : Nat) (xs : List Value) (xa : Option Addr) (m c : Nat) (news : List Value) (hs : a.eval s = .slice sa n c0) (hx : a.eval x = .slice xa m c) (hown : w.ownsRow B 69 2 (.slice sa n c0) n xs) (hr : ReadAt w xa m c 2 news)
  (h1 : ∀ u ∈ news, u.oneCell' = true) (hN : n + m ≤ 4194304) (hB : B ≤ w.heap.size)
  (h : ∀ a' c' w', w'.ownsRow B 69 2 (.slice a' (n + m) c') (n + m) (xs ++ news) → w.grownBy w' (Value.slice sa n c0).ownBlock → NewOr w sa a' → K (a.put dst (.slice a' (n + m) c')) w') :
  Oper.wp Try.prog ({ dst := dst, op := .call { callee := .builtin .append, args := #[s, x], argTypes := #[29, 29] }, type := τ, pos := pos, after := after, guard := g } : Oper) a w K Q := by
 obtain ⟨i, q1, q2, q3, q4⟩ := info_acks;obtain ⟨a', c', w', hrun, h2, h3, h4⟩ := run_app (w := w) B 29 τ 69 i (.agg #[.int .i64 0, .slice none 0 0]) 2 32 Try.underlying29 q1 q2 q3 q4 rfl (by omega) sa n c0 xs hown xa m c news hr h1 (by unfold maxLen; omega) (by omega) hB;unfold Oper.wp execOp;simp only [resolve, invoke, builtin, Sem.run_bind, Sem.run_pure, Result.andThen_ok, List.map_toArray, List.map_cons, List.map_nil, hs, hx, hrun];exact h a' c' w' h2 h3 h4
end Go.Proofs.Ytjdceoimignnpaa
