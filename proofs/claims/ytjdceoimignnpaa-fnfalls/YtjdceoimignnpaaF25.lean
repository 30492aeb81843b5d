import Derived.Test.YtjdceoimignnpaaF24
namespace Go.Proofs.Ytjdceoimignnpaa
open Go.ChangeShapes Go.WideShapes Go.ChangeAt Go.RowKit next Go
set_option linter.unusedVariables false
set_option linter.unusedSimpArgs false
set_option maxHeartbeats 32000000
set_option maxRecDepth 20000
variable {L : Array Bool} {cs cs' : Array Value} {X : List (Nat × TypeId × Array Value)} {l : List Sl} {b c' cap g i n nl p : Nat} {o : Oper} {a' ca : Option Addr} {T : TypeId} {v : Value} {w w' w0 wr : World}
def BytesAt (w : World) (ca : Option Addr) (n : Nat) : Prop := ∀ i, i < n → ∃ b off v, ca = some ⟨b, off, none⟩ ∧ b < w.heap.size ∧ 0 ≤ v ∧ v < 256 ∧ w.cell? ⟨b, off + i, none⟩ = some (.int .u8 v)
theorem BytesAt.ext (h : BytesAt w ca n) (hb : Below w.heap.size w w') : BytesAt w' ca n := fun i hi => by
 obtain ⟨b, off, v, h1, h2, h3, h4, h5⟩ := h i hi;exact ⟨b, off, v, h1, Nat.lt_of_lt_of_le h2 hb.size, h3, h4, (World.cell?_of_block (a := ⟨b, off + i, none⟩) (hb.block b h2)).trans h5⟩
theorem Mc (w : World) (ca : Option Addr) (n cap : Nat) (h : BytesAt w ca n) (hc : n ≤ cap) (hm : cap ≤ maxLen) :
  Calls Try.prog 28 #[.slice ca n cap] w fun e w' => ∃ n', e = .returned (.pointer (some ⟨w.heap.size, 0, none⟩)) ∧ pO w' w.heap.size ca n' cap 0 ∧ Below w.heap.size w w' ∧ w'.heap.size = w.heap.size + 1 := by
 unfold maxLen at hm;have key : ∀ n', n' ≤ n → n' ≤ 2000 → pO (w.alloc (.cells #[.slice ca n' cap, .int .i64 0] 96)) w.heap.size ca n' cap 0 := fun n' h1 h2 =>
  ⟨aC.new _ _ _, fun i hi => by
   obtain ⟨b, off, v, e1, e2, e3, e4, e5⟩ := h i (by omega)
   exact ⟨b, off, v, e1, by simp; omega, by omega, e3, e4, (World.cell?_of_block (a := ⟨b, off + i, none⟩) ((ae (Below.refl w.heap.size w) _).block b e2)).trans e5⟩, h2⟩
 have KEY := hid key;have HN := hid hc;clear key h;by_cases h2 : 2000 < n
 ·have e1 : (2000 : Int) < (n : Int) := by omega
  have u1 : decide ((2000 : Int) < (n : Int)) = true := decide_eq_true e1;have e2 : (2000 : Int) ≤ (cap : Int) := by omega
  have e3 : 2000 ≤ cap := by omega
  go_enter Try.func28, Try.ntmps28;go_wp2_with fail;go_ret;exact ⟨2000, rfl, KEY.out 2000 (by omega) (by omega), ae (Below.refl _ _) _, by simp⟩
 have e1 : ¬ (2000 : Int) < (n : Int) := by omega
 have u1 : decide ((2000 : Int) < (n : Int)) = false := decide_eq_false e1;go_enter Try.func28, Try.ntmps28;go_wp2_with fail;go_ret;exact ⟨rfl, ⟨n, KEY.out n (Nat.le_refl _) (by omega)⟩, ae (Below.refl _ _) _, by simp⟩
theorem qH {P : Program} {md : Region.Mode} {ops : Array Oper} {Q : Exit → Act → World → Prop} {S S' : World → Prop} (hS : ∀ w, S' w → S w) : ∀ (f : Nat) (L : Array Bool) (a : Act) (w : World), wpAnyH P md ops Q S' f L a w → wpAnyH P md ops Q S f L a w
 | 0, _, _, _, h => h
 | f + 1, _, _, _, h => ⟨h.1, fun i hi => wpOp_mono (fun a' w' k => ⟨hS w' k.1, qH hS f _ a' w' k.2⟩) (h.2 i hi)⟩
theorem Gx {B : Nat} {a b : World} (h : sZ g a b) (hg : B ≤ g) (hB : B ≤ a.heap.size) : Below B a b := ⟨h.os, h.tape, h.output, h.size, fun i hi => h.block i (by omega) (by omega)⟩
theorem MK (t : ByteArray) (m : Nat) (w : World) (ht : t.size = 1) (hm : m ≤ 1000) : Calls Try.prog 62 #[.string t, .int .i64 (m : Int)] w fun e w' => ∃ u : ByteArray, e = .returned (.string u) ∧ u.size ≤ 1000 ∧ w' = w := by
 have HM := hid hm;have HT := hid ht;clear hm ht;go_enter Try.func62, Try.ntmps62;go_wp2_with fail;go_loopw [0, 1, 5] (fun s0 s1 s5 wr => ∃ (s o : ByteArray) (k : Nat), s0 = .string s ∧ s1 = .int .i64 (k : Int) ∧ s5 = .string o ∧ wr = w ∧ o.size + s.size * k = m ∧ k ≤ m ∧ s.size ≤ 2000) (fun _ s1 _ _ => (intOf s1).toNat);case atStart => exact ⟨t, ⟨#[]⟩, m, rfl, rfl, rfl, rfl, by rw [HT.out]; show 0 + 1 * m = m; omega, Nat.le_refl _, by rw [HT.out]; omega⟩
 case round =>
  obtain ⟨s, o, k, rfl, rfl, rfl, rfl, hk, hkm, hs⟩ := hrel;have HK := hid hk;have m1 := HM.out;by_cases h0 : 0 < k
  ·have e3 : (0 : Int) < (k : Int) := by omega
   have u3 : decide ((0 : Int) < (k : Int)) = true := decide_eq_true e3;have hle : s.size ≤ s.size * k := Nat.le_mul_of_pos_right _ h0;have s1 : ¬ 9223372036854775807 < s.size + s.size := by omega
   have s2 : ¬ 9223372036854775807 < o.size + s.size := by omega
   have eq : (k : Int).tdiv 2 = ((k / 2 : Nat) : Int) := by rw [Int.tdiv_eq_ediv_of_nonneg (by omega)]; omega
   have er : (k : Int).tmod 2 = ((k % 2 : Nat) : Int) := by rw [Int.tmod_eq_emod_of_nonneg (by omega)]; omega
   have ew : IntKind.i64.wrap ((k / 2 : Nat) : Int) = ((k / 2 : Nat) : Int) := by go_arith
   have hd : k = 2 * (k / 2) + k % 2 := by omega
   obtain ⟨q, hq⟩ : ∃ q, q = k / 2 := ⟨_, rfl⟩
   rw [← hq] at eq ew hd;have hr : k % 2 = 0 ∨ k % 2 = 1 := by omega
   have key : s.size * k = s.size * (2 * q + k % 2) := by rw [← hd]
   have k2 : (s ++ s).size * q = s.size * (2 * q) := by rw [ByteArray.size_append, show s.size + s.size = s.size * 2 by omega, Nat.mul_assoc]
   have HQ := hid (show q < k ∧ q ≤ m by omega);have HS := hid (show s.size ≤ 1000 by omega);rcases hr with hr | hr
   ·rw [hr] at er key;have KK := hid (show o.size + (s ++ s).size * q = m by rw [k2]; rw [Nat.add_zero] at key; rw [← key]; exact HK.out);clear hk key k2 hd hq;go_wp2_with fail;go_roundw;case rel => exact ⟨s ++ s, o, q, rfl, by first | rfl | trivial, by first | rfl | trivial, by first | rfl | trivial, KK.out, HQ.out.2, by rw [ByteArray.size_append]; have := HS.out; omega⟩
    case measure => simp [intOf]; have := HQ.out.1; omega
   ·rw [hr] at er key;have KK := hid (show (o ++ s).size + (s ++ s).size * q = m by rw [k2, ByteArray.size_append]; rw [Nat.mul_add, Nat.mul_one] at key; have := HK.out; omega);clear hk key k2 hd hq;go_wp2_with fail;go_roundw;case rel => exact ⟨s ++ s, o ++ s, q, rfl, by first | rfl | trivial, by first | rfl | trivial, by first | rfl | trivial, KK.out, HQ.out.2, by rw [ByteArray.size_append]; have := HS.out; omega⟩
    case measure => simp [intOf]; have := HQ.out.1; omega
  ·have e3 : ¬ (0 : Int) < (k : Int) := by omega
   have u3 : decide ((0 : Int) < (k : Int)) = false := decide_eq_false e3;go_wp2_with fail;go_ret;exact ⟨o, rfl, by have := HK.out; omega, rfl⟩
def Cc (l : List Sl) : Prop := ∀ s ∈ l, -1 ≤ s.1 ∧ s.1 ≤ 2000000 ∧ s.2.size ≤ 1000
structure DK (w0 : World) (g : Nat) (ca : Option Addr) (n cap : Nat) (X : List (Nat × TypeId × Array Value)) (l : List Sl) (nl : Nat) (a' : Option Addr) (c' p : Nat) (wr : World) : Prop where
 r : RX w0 g ca n cap X p wr
 row : aO w0.heap.size wr (fun _ => 0) 0 43 2 a' nl c' (flat l)
 ln : l.length = nl
 ap : ∀ u ∈ X, ∀ x, a' = some x → x.block ≠ u.1
 ok : Cc l
theorem DK.rd {p' : Nat} (h : DK w0 g ca n cap X l nl a' c' p wr) (hw : sZ g wr w') (ha : pO w' g ca n cap p') : DK w0 g ca n cap X l nl a' c' p' w' :=
 ⟨h.r.rd hw ha, h.row.same fun x hx => hw.block _ (h.row.lt x hx).2 (by have := (h.row.lt x hx).1; have := h.r.l; omega), h.ln, h.ap, h.ok⟩
theorem DK.ext (h : DK w0 g ca n cap X l nl a' c' p wr) (hb : Below wr.heap.size wr w') : DK w0 g ca n cap X l nl a' c' p w' := ⟨h.r.ext hb, h.row.ext hb, h.ln, h.ap, h.ok⟩
theorem DK.top (h : DK w0 g ca n cap ((b, T, cs) :: X) l nl a' c' p wr) (hc : ∀ x, ca = some x → x.block < w0.heap.size) (hs : ∀ c, c ≠ b → w'.heap[c]? = wr.heap[c]?) (hk : aC w' b cs' T) (hb : Below w0.heap.size wr w') (hX : ∀ u ∈ X, u.1 ≠ b) : DK w0 g ca n cap ((b, T, cs') :: X) l nl a' c' p w' :=
 ⟨h.r.top hc hs hk hb hX, h.row.same fun x hx => hs _ (h.ap _ (.head _) x hx), h.ln, fun u hu x hx => by
  rcases List.mem_cons.1 hu with rfl | hu
  ·exact h.ap _ (.head _) x hx
  exact h.ap u (.tail _ hu) x hx, h.ok⟩
theorem eU {ops : Array Oper} {rest : List Oper} {dst : Option Tmp} {x : Operand} {τ : TypeId} {pos : String} {after : Array Edge} {a : Act} {w : World} {Q : Exit → Act → World → Prop}
  (g : Nat) (cs : Array Value) (hs : cs.size = 3) (hx : a.eval x = .pointer (some ⟨g, 0, none⟩)) (hg : aC w g cs 25)
  (h : wpList Try.prog ops Q rest (a.put dst (.agg cs)) w) :
  wpList Try.prog ops Q ({ dst := dst, op := .load 25 x, type := τ, pos := pos, after := after, guard := none } :: rest) a w :=
 gQ g cs _ hx hg Try.underlying25 rfl (by rw [hs]; kernel_rfl) h
theorem eY {ops : Array Oper} {rest : List Oper} {dst : Option Tmp} {x y : Operand} {τ : TypeId} {pos : String} {after : Array Edge} {a : Act} {w : World} {Q : Exit → Act → World → Prop}
  (g : Nat) (old cells : Array Value) (hs : cells.size = 3) (ho : old.size = 3) (hx : a.eval x = .pointer (some ⟨g, 0, none⟩)) (hy : a.eval y = .agg cells) (hg : aC w g old 25) (h1 : cells.all (·.oneCell') = true)
  (h : wpList Try.prog ops Q rest (a.put dst undef) (w.setRow g cells)) :
  wpList Try.prog ops Q ({ dst := dst, op := .store 25 x y, type := τ, pos := pos, after := after, guard := none } :: rest) a w :=
 wpList_store_row (o := { dst := dst, op := .store 25 x y, type := τ, pos := pos, after := after, guard := none }) rfl 25 x y rfl g cells hx hy 25 old hg (by rw [hs]; kernel_rfl) (by rw [ho, hs]) h1 h
theorem uT {ops : Array Oper} {rest : List Oper} {dst : Option Tmp} {x y : Operand} {τ : TypeId} {pos : String} {after : Array Edge} {a : Act} {w0 : World} {c : Array Value} {Q : Exit → Act → World → Prop}
  (cells : Array Value) (hs : cells.size = 3) (hx : a.eval x = .pointer (some ⟨w0.heap.size, 0, none⟩)) (hy : a.eval y = .agg cells) (hc : c.size = 3) (h1 : cells.all (·.oneCell') = true)
  (h : wpList Try.prog ops Q rest (a.put dst undef) (w0.alloc (.cells cells 25))) :
  wpList Try.prog ops Q ({ dst := dst, op := .store 25 x y, type := τ, pos := pos, after := after, guard := none } :: rest) a (w0.alloc (.cells c 25)) :=
 dU cells hx hy (by rw [hs]; kernel_rfl) (by rw [hc, hs]) h1 h
def Oa (w : World) (g : Nat) (ca : Option Addr) (n cap p q m : Nat) (e : Ending) (w' : World) : Prop :=
 ∃ (x y : Int) (l : List Sl) (nl : Nat) (a' : Option Addr) (c' p' : Nat), e = .returned (.agg #[.int .i64 x, .int .i64 y, .slice a' nl c']) ∧ DK w g ca n cap [] l nl a' c' p' w' ∧ (-1 ≤ x ∧ x ≤ 1000001) ∧ (-1 ≤ y ∧ y ≤ 1000001) ∧ nl ≤ m ∧ p' ≤ p + q
theorem DK.ends (h : DK w0 g ca n cap X l nl a' c' p wr) (hb : (b, T, cs) ∈ X) (hc : ∀ x, ca = some x → x.block < w0.heap.size) : DK w0 g ca n cap [] l nl a' c' p (wr.setRow b cs') := by
 have k := h.r.ends (cs' := cs') hb hc;exact ⟨⟨k.2, k.1, fun u hu => absurd hu (by simp), h.r.l⟩, h.row.same fun x hx => setRow_other _ _ _ _ (h.ap _ hb x hx), h.ln, fun u hu => absurd hu (by simp), h.ok⟩
section
variable {P : Program} {ops : Array Oper} {Q : Exit → Act → World → Prop} {md : Region.Mode} {S : World → Prop} {z : Nat}
/-- number u waits for number i, or for one that does, .. -/
def nS (md : Region.Mode) (ops : Array Oper) : Nat → Nat → Nat → Bool
 | 0, _, _ => false
 | n + 1, u, i => match ops[u]? with
  | some o => o.after.any fun e => Region.binds md e && (e.on == i || nS md ops n e.on i)
  | none => false
/-- what is done has done what it waits for -/
def yN (md : Region.Mode) (ops : Array Oper) (L : Array Bool) : Prop := ∀ j oj, ops[j]? = some oj → L.getD j false = true → ∀ e ∈ oj.after, Region.binds md e = true → L.getD e.on false = true
def vP (md : Region.Mode) (ops : Array Oper) (L : Array Bool) : Bool := (List.range ops.size).all fun j => !(L.getD j false) || (match ops[j]? with | some o => o.after.all (fun e => !(Region.binds md e) || L.getD e.on false) | none => true)
theorem DN (h : vP md ops L = true) : yN md ops L := fun j oj hj hd e he hb => by
 have hlt : j < ops.size := (Array.getElem?_eq_some_iff.1 hj).1;have h1 := List.all_eq_true.1 h j (List.mem_range.2 hlt);rw [hd, hj] at h1;simp only [Bool.not_true, Bool.false_or] at h1;have h2 := Array.all_eq_true_iff_forall_mem.1 h1 e he;rw [hb] at h2;simpa using h2
theorem wX (hC : yN md ops L) (i : Nat) : ∀ (n u : Nat), nS md ops n u i = true → (∃ o, ops[u]? = some o ∧ ∀ e ∈ o.after, Region.binds md e = true → L.getD e.on false = true) → L.getD i false = true
 | 0, u, h, _ => by simp [nS] at h
 | n + 1, u, h, ⟨o, ho, hall⟩ => by
  unfold nS at h;rw [ho] at h;simp only [Array.any_eq_true, Bool.and_eq_true, Bool.or_eq_true, beq_iff_eq] at h;obtain ⟨k, hk, hb, h1⟩ := h;have hd := hall _ (Array.getElem_mem hk) hb;rcases h1 with h1 | h1
  ·rw [h1] at hd; exact hd
  ·cases n with
   | zero => simp [nS] at h1
   | succ n =>
    have h2 : ∃ o2, ops[(o.after[k]).on]? = some o2 := by
     unfold nS at h1;cases hx : ops[(o.after[k]).on]? with
     | none => rw [hx] at h1; simp at h1
     | some o2 => exact ⟨o2, rfl⟩
    obtain ⟨o2, ho2⟩ := h2;exact wX hC i (n + 1) _ h1 ⟨o2, ho2, fun e he hb => hC _ o2 ho2 hd e he hb⟩
theorem yN.step {j : Nat} (h : yN md ops L) (hj : j ∈ Region.ready md ops L) : yN md ops (L.setIfInBounds j true) := fun u ou hu hd e he hb => by
 obtain ⟨_, oj, hoj, hall⟩ := mem_ready.1 hj;by_cases huj : j = u
 ·subst huj;rw [hoj] at hu;simp only [Option.some.injEq] at hu;subst hu;exact getD_set_true (hall e he hb)
 ·rw [getD_set_ne false huj] at hd;exact getD_set_true (h u ou hu hd e he hb)
theorem dW.KQ (hi : ops[i]? = some o) (hsel : Region.noSelect ops = true) (hQ : ∀ c a w, Q (.panic c) (a.put o.dst v) w → Q (.panic c) a w) {n : Nat} (hz : nS md ops n z i = true) (f : Nat) :
  ∀ (L : Array Bool) (a : Act) (w : World), yN md ops L → (∀ j oj, ops[j]? = some oj → j ≠ i → L.getD j true = false → (∀ e ∈ oj.after, Region.binds md e = true → e.on ≠ i) → o.apart ops oj = true) →
   i ∈ Region.ready md ops L → YieldsIf P ops S o v a → S w → dW P md ops Q S z f (L.setIfInBounds i true) (a.put o.dst v) w → dW P md ops Q S z (f + 1) L a w := by
 induction f with
 | zero =>
  intro L a w _ _ hr hy hS H;refine ⟨fun h => absurd (h ▸ hr) (by simp), fun j hj => ?_⟩;rcases Nat.decEq j i with hne | rfl
  ·have h0 := ready_mono hj hne;rw [H.1] at h0;simp at h0
  ·exact hy.wpOp hi hS ⟨fun _ => hS, H⟩
 | succ f ih =>
  intro L a w hC hf hr hy hS H;refine ⟨fun h => absurd (h ▸ hr) (by simp), fun j hj => ?_⟩;rcases Nat.decEq j i with hne | rfl
  ·obtain ⟨un, oj, hoj, hall⟩ := mem_ready.1 hj;have un0 := (mem_ready.1 hr).1;have unf : ¬ L.getD i false = true := fun h1 => by
    rcases Nat.lt_or_ge i L.size with lt | ge
    ·simp [lt] at un0 h1;rw [un0] at h1;cases h1
    ·simp [Array.getElem?_eq_none ge] at h1
   have hno : ∀ e ∈ oj.after, Region.binds md e = true → e.on ≠ i := by
    intro e he hb q;have h1 := hall e he hb;rw [q] at h1;exact unf h1
   have hjz : j ≠ z := by
    rintro rfl;exact unf (wX hC i n _ hz ⟨oj, hoj, hall⟩)
   have h2 := wpOp_putIf hoj (hf j oj hoj hne un hno) (fun cs b => Region.noSelect_spec hsel i o cs b hi) (fun cs b => Region.noSelect_spec hsel j oj cs b hoj) hQ hy (H.2 j (ready_mono hj hne));refine wpOp_mono (fun a' w' k => ⟨k.2.1, ih _ a' w' (hC.step hj) (fun x ox hx hxi hun hn => hf x ox hx hxi ?_ hn) (ready_mono hr (Ne.symm hne)) k.1 (k.2.1 hjz) ?_⟩) h2
   ·rcases Nat.decEq j x with ne | rfl
    ·rw [getD_set_ne true ne] at hun; exact hun
    ·exact un
   ·rw [Array.setIfInBounds_comm _ _ hne];exact k.2.2
  ·exact hy.wpOp hi hS ⟨fun _ => hS, H⟩
/-- number i is taken first -/
theorem bT {f : Nat} {a : Act} (hi : ops[i]? = some o) (hz : (nS md ops 12 z i && vP md ops L) = true) (hs : Region.noSelect ops = true) (hf : Region.free md ops L i = true) (hr : (Region.ready md ops L).contains i = true)
  (hQ : ∀ c a w, Q (.panic c) (a.put o.dst v) w → Q (.panic c) a w) (hy : YieldsIf P ops S o v a) (hS : S w) (h : dW P md ops Q S z f (L.setIfInBounds i true) (a.put o.dst v) w) : dW P md ops Q S z (f + 1) L a w := by
 simp only [Bool.and_eq_true] at hz;exact dW.KQ hi hs hQ hz.1 f L a w (DN hz.2) (Region.free_spec hi hf) (by simpa using hr) hy hS h
def ak (P : Program) (md : Region.Mode) (ops : Array Oper) (Q : Exit → Act → World → Prop) (S : World → Prop) (z : Nat) (l : List Nat) (f : Nat) (L : Array Bool) (a : Act) (w : World) : Prop := dW P md ops Q S z f L a w
variable {f i : Nat} {L : Array Bool} {a : Act} {w : World} {o : Oper} {v : Value} {l : List Nat}
theorem ak.go (l : List Nat) (h : ak P md ops Q S z l f L a w) : dW P md ops Q S z f L a w := h
theorem ak.fin (h : dW P md ops Q S z f L a w) : ak P md ops Q S z [] f L a w := h
theorem ak.take (hi : ops[i]? = some o) (hk : (nS md ops 12 z i && vP md ops L && (Region.noSelect ops && (Region.free md ops L i && (Region.ready md ops L).contains i))) = true) (hw : Region.wanted o (yielded ops a.tmps) = true)
  (hQ : ∀ c a w, Q (.panic c) (a.put o.dst v) w → Q (.panic c) a w) (hS : S w) (hy : ∀ w, S w → (execOp a.eval o).run P w = .ok (.value v) w) (h : ak P md ops Q S z l f (L.setIfInBounds i true) (a.put o.dst v) w) : ak P md ops Q S z (i :: l) (f + 1) L a w := by
 obtain ⟨h1, h2⟩ := Bool.and_eq_true_iff.1 hk;obtain ⟨h3, h4⟩ := Bool.and_eq_true_iff.1 h2;obtain ⟨h5, h6⟩ := Bool.and_eq_true_iff.1 h4;exact bT hi h1 h3 h5 h6 hQ (.inl ⟨hw, hy⟩) hS h
theorem ak.tk (hS : S w) (h : ak P md ops Q S z l f (L.setIfInBounds i true) (a.put o.dst v) w) (hi : ops[i]? = some o := by exact ax rfl) (hk : (nS md ops 12 z i && vP md ops L && (Region.noSelect ops && (Region.free md ops L i && (Region.ready md ops L).contains i))) = true := by kernel_rfl) (hw : Region.wanted o (yielded ops a.tmps) = true := by rfl) (hQ : ∀ c a w, Q (.panic c) (a.put o.dst v) w → Q (.panic c) a w := by exact fun _ _ _ h => h) (hy : ∀ w, S w → (execOp a.eval o).run P w = .ok (.value v) w := by intro w9 hSw; have hq := hSw.k.cell; clear hSw; go_simp; try with_reducible rfl) : ak P md ops Q S z (i :: l) (f + 1) L a w := ak.take hi hk hw hQ hS hy h
end
end Go.Proofs.Ytjdceoimignnpaa
