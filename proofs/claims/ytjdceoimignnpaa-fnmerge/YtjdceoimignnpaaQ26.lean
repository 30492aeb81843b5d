import Derived.Test.YtjdceoimignnpaaQ25
namespace Go.Proofs.Ytjdceoimignnpaa
open Go.ChangeShapes Go.WideShapes Go.ChangeAt Go.RowKit next Go Go.Deep Go.Joins
set_option linter.unusedVariables false
set_option linter.unusedSimpArgs false
set_option maxHeartbeats 40000000
set_option maxRecDepth 20000
variable {L : Array Bool} {cs cs' : Array Value} {X : List (Nat × TypeId × Array Value)} {l : List Sl} {b c' cap g i k n nl p : Nat} {o : Oper} {a' ca : Option Addr} {T : TypeId} {v : Value} {w w' w0 wr : World}
theorem manyW (t : ByteArray) (m : Nat) (w : World) (ht : t.size = 1) (hm : m ≤ 1000) : Calls Try.prog 62 #[.string t, .int .i64 (m : Int)] w fun e w' => ∃ u : ByteArray, e = .returned (.string u) ∧ u.size ≤ 1000 ∧ w' = w := by
 have HM := hid hm;have HT := hid ht;clear hm ht;go_enter Try.func62, Try.ntmps62;go_wp2_with fail;go_loopw [0, 1, 5] (fun s0 s1 s5 wr => ∃ (s o : ByteArray) (k : Nat), s0 = .string s ∧ s1 = .int .i64 (k : Int) ∧ s5 = .string o ∧ wr = w ∧ o.size + s.size * k = m ∧ k ≤ m ∧ s.size ≤ 2000) (fun _ s1 _ _ => (intOf s1).toNat);case atStart => exact ⟨t, ⟨#[]⟩, m, rfl, rfl, rfl, rfl, by rw [HT.out]; show 0 + 1 * m = m; omega, Nat.le_refl _, by rw [HT.out]; omega⟩
 case round =>
  obtain ⟨s, o, k, rfl, rfl, rfl, rfl, hk, hkm, hs⟩ := hrel;have HK := hid hk;have m1 := HM.out;by_cases h0 : 0 < k
  ·have e3 : (0 : Int) < (k : Int) := by omega
   have u3 : decide ((0 : Int) < (k : Int)) = true := decide_eq_true e3;have hle : s.size ≤ s.size * k := Nat.le_mul_of_pos_right _ h0;have s1 : ¬ 9223372036854775807 < s.size + s.size := by omega
   have s2 : ¬ 9223372036854775807 < o.size + s.size := by omega
   have eq : (k : Int).tdiv 2 = ((k / 2 : Nat) : Int) := by rw [Int.tdiv_eq_ediv_of_nonneg (by omega)]; omega
   have er : (k : Int).tmod 2 = ((k % 2 : Nat) : Int) := by rw [Int.tmod_eq_emod_of_nonneg (by omega)]; omega
   have ew : IntKind.i64.wrap ((k / 2 : Nat) : Int) = ((k / 2 : Nat) : Int) := by go_arith
   have hd : k = 2 * (k / 2) + k % 2 := by omega
   obtain ⟨q, hq⟩ : ∃ q, q = k / 2 := ⟨_, rfl⟩
   rw [← hq] at eq ew hd;have hr : k % 2 = 0 ∨ k % 2 = 1 := by omega
   have key : s.size * k = s.size * (2 * q + k % 2) := by rw [← hd]
   have k2 : (s ++ s).size * q = s.size * (2 * q) := by rw [ByteArray.size_append, show s.size + s.size = s.size * 2 by omega, Nat.mul_assoc]
   have HQ := hid (show q < k ∧ q ≤ m by omega);have HS := hid (show s.size ≤ 1000 by omega);rcases hr with hr | hr
   ·rw [hr] at er key;have KK := hid (show o.size + (s ++ s).size * q = m by rw [k2]; rw [Nat.add_zero] at key; rw [← key]; exact HK.out);clear hk key k2 hd hq;go_wp2_with fail;go_roundw;case rel => exact ⟨s ++ s, o, q, rfl, by first | rfl | trivial, by first | rfl | trivial, by first | rfl | trivial, KK.out, HQ.out.2, by rw [ByteArray.size_append]; have := HS.out; omega⟩
    case measure => simp [intOf]; have := HQ.out.1; omega
   ·rw [hr] at er key;have KK := hid (show (o ++ s).size + (s ++ s).size * q = m by rw [k2, ByteArray.size_append]; rw [Nat.mul_add, Nat.mul_one] at key; have := HK.out; omega);clear hk key k2 hd hq;go_wp2_with fail;go_roundw;case rel => exact ⟨s ++ s, o ++ s, q, rfl, by first | rfl | trivial, by first | rfl | trivial, by first | rfl | trivial, KK.out, HQ.out.2, by rw [ByteArray.size_append]; have := HS.out; omega⟩
    case measure => simp [intOf]; have := HQ.out.1; omega
  ·have e3 : ¬ (0 : Int) < (k : Int) := by omega
   have u3 : decide ((0 : Int) < (k : Int)) = false := decide_eq_false e3;go_wp2_with fail;go_ret;exact ⟨o, rfl, by have := HK.out; omega, rfl⟩
def SlOk (l : List Sl) : Prop := ∀ s ∈ l, -1 ≤ s.1 ∧ s.1 ≤ 2000000 ∧ s.2.size ≤ 1000
structure DK (w0 : World) (g : Nat) (ca : Option Addr) (n cap : Nat) (X : List (Nat × TypeId × Array Value)) (l : List Sl) (nl : Nat) (a' : Option Addr) (c' p : Nat) (wr : World) : Prop where
 r : RX w0 g ca n cap X p wr
 row : RowC w0.heap.size wr (fun _ => 0) 0 43 2 a' nl c' (flat l)
 ln : l.length = nl
 ap : ∀ u ∈ X, ∀ x, a' = some x → x.block ≠ u.1
 ok : SlOk l
theorem DK.rd {p' : Nat} (h : DK w0 g ca n cap X l nl a' c' p wr) (hw : RdW g wr w') (ha : RdA w' g ca n cap p') : DK w0 g ca n cap X l nl a' c' p' w' :=
 ⟨h.r.rd hw ha, h.row.same fun x hx => hw.block _ (h.row.lt x hx).2 (by have := (h.row.lt x hx).1; have := h.r.l; omega), h.ln, h.ap, h.ok⟩
theorem DK.ext (h : DK w0 g ca n cap X l nl a' c' p wr) (hb : Below wr.heap.size wr w') : DK w0 g ca n cap X l nl a' c' p w' := ⟨h.r.ext hb, h.row.ext hb, h.ln, h.ap, h.ok⟩
theorem DK.top (h : DK w0 g ca n cap ((b, T, cs) :: X) l nl a' c' p wr) (hc : ∀ x, ca = some x → x.block < w0.heap.size) (hs : ∀ c, c ≠ b → w'.heap[c]? = wr.heap[c]?) (hk : Blk w' b cs' T) (hb : Below w0.heap.size wr w') (hX : ∀ u ∈ X, u.1 ≠ b) : DK w0 g ca n cap ((b, T, cs') :: X) l nl a' c' p w' :=
 ⟨h.r.top hc hs hk hb hX, h.row.same fun x hx => hs _ (h.ap _ (.head _) x hx), h.ln, fun u hu x hx => by
  rcases List.mem_cons.1 hu with rfl | hu
  ·exact h.ap _ (.head _) x hx
  exact h.ap u (.tail _ hu) x hx, h.ok⟩
theorem wpList_load_d3 {ops : Array Oper} {rest : List Oper} {dst : Option Tmp} {x : Operand} {τ : TypeId} {pos : String} {after : Array Edge} {a : Act} {w : World} {Q : Exit → Act → World → Prop}
  (g : Nat) (cs : Array Value) (hs : cs.size = 3) (hx : a.eval x = .pointer (some ⟨g, 0, none⟩)) (hg : Blk w g cs 25)
  (h : wpList Try.prog ops Q rest (a.put dst (.agg cs)) w) :
  wpList Try.prog ops Q ({ dst := dst, op := .load 25 x, type := τ, pos := pos, after := after, guard := none } :: rest) a w :=
 wpList_load_blk g cs _ hx hg Try.underlying25 rfl (by rw [hs]; kernel_rfl) h
theorem wpList_store_d3 {ops : Array Oper} {rest : List Oper} {dst : Option Tmp} {x y : Operand} {τ : TypeId} {pos : String} {after : Array Edge} {a : Act} {w : World} {Q : Exit → Act → World → Prop}
  (g : Nat) (old cells : Array Value) (hs : cells.size = 3) (ho : old.size = 3) (hx : a.eval x = .pointer (some ⟨g, 0, none⟩)) (hy : a.eval y = .agg cells) (hg : Blk w g old 25) (h1 : cells.all (·.oneCell') = true)
  (h : wpList Try.prog ops Q rest (a.put dst undef) (w.setRow g cells)) :
  wpList Try.prog ops Q ({ dst := dst, op := .store 25 x y, type := τ, pos := pos, after := after, guard := none } :: rest) a w :=
 wpList_store_row (o := { dst := dst, op := .store 25 x y, type := τ, pos := pos, after := after, guard := none }) rfl 25 x y rfl g cells hx hy 25 old hg (by rw [hs]; kernel_rfl) (by rw [ho, hs]) h1 h
theorem wpList_store_d3b {ops : Array Oper} {rest : List Oper} {dst : Option Tmp} {x y : Operand} {τ : TypeId} {pos : String} {after : Array Edge} {a : Act} {w0 : World} {c : Array Value} {Q : Exit → Act → World → Prop}
  (cells : Array Value) (hs : cells.size = 3) (hx : a.eval x = .pointer (some ⟨w0.heap.size, 0, none⟩)) (hy : a.eval y = .agg cells) (hc : c.size = 3) (h1 : cells.all (·.oneCell') = true)
  (h : wpList Try.prog ops Q rest (a.put dst undef) (w0.alloc (.cells cells 25))) :
  wpList Try.prog ops Q ({ dst := dst, op := .store 25 x y, type := τ, pos := pos, after := after, guard := none } :: rest) a (w0.alloc (.cells c 25)) :=
 wpList_store_last cells hx hy (by rw [hs]; kernel_rfl) (by rw [hc, hs]) h1 h
def DkP (w : World) (g : Nat) (ca : Option Addr) (n cap p q m : Nat) (e : Ending) (w' : World) : Prop :=
 ∃ (x y : Int) (l : List Sl) (nl : Nat) (a' : Option Addr) (c' p' : Nat), e = .returned (.agg #[.int .i64 x, .int .i64 y, .slice a' nl c']) ∧ DK w g ca n cap [] l nl a' c' p' w' ∧ (-1 ≤ x ∧ x ≤ 1000001) ∧ (-1 ≤ y ∧ y ≤ 1000001) ∧ nl ≤ m ∧ p' ≤ p + q
theorem DK.ends (h : DK w0 g ca n cap X l nl a' c' p wr) (hb : (b, T, cs) ∈ X) (hc : ∀ x, ca = some x → x.block < w0.heap.size) : DK w0 g ca n cap [] l nl a' c' p (wr.setRow b cs') := by
 have k := h.r.ends (cs' := cs') hb hc;exact ⟨⟨k.2, k.1, fun u hu => absurd hu (by simp), h.r.l⟩, h.row.same fun x hx => setRow_other _ _ _ _ (h.ap _ hb x hx), h.ln, fun u hu => absurd hu (by simp), h.ok⟩
theorem disk0 (w : World) (g : Nat) (ca : Option Addr) (n cap p : Nat) (h : RdA w g ca n cap p) (hp : p ≤ 700000000) (hc : ∀ x, ca = some x → x.block < w.heap.size) :
  Calls Try.prog 58 #[.pointer (some ⟨g, 0, none⟩)] w (DkP w g ca n cap p 40 5) := by
 have HP := hid hp;have HC := hid hc;obtain ⟨V, hV⟩ : ∃ V, V = w.alloc (.cells #[.int .i64 0, .int .i64 0, .slice none 0 0] 25) := ⟨_, rfl⟩
 have S0 := hid (show RX w g ca n cap [(w.heap.size, 25, #[.int .i64 0, .int .i64 0, .slice none 0 0])] p V by rw [hV]; exact (RX.start h).new _ _);have ZV := hid (show V.heap.size = w.heap.size + 1 by rw [hV]; simp);clear h hp hc;go_enter Try.func58, Try.ntmps58;go_wp2_with fail;rw [← hV];clear hV;refine (pickW V g ca n cap p 12 S0.out.a (by have := HP.out; omega) (by omega) (by omega)).mono ?_;rintro e w1 ⟨v, rfl, hv, hu, ha⟩;have Z1 := hid (show w1.heap.size = w.heap.size + 1 from hu.size.trans ZV.out);have S1 := hid (S0.out.pick hu ha);clear hu ha S0;obtain ⟨W2, hW2⟩ : ∃ u, u = w1.alloc (.cells #[.int .i64 (v : Int), .int .i64 0, .slice none 0 0] 25) := ⟨_, rfl⟩
 obtain ⟨gd, hgd⟩ : ∃ u, u = w1.heap.size := ⟨_, rfl⟩
 have S2 := hid (show RX w g ca n cap [(gd, 25, #[.int .i64 (v : Int), .int .i64 0, .slice none 0 0]), (w.heap.size, 25, #[.int .i64 0, .int .i64 0, .slice none 0 0])] (p + 1) W2 by rw [hW2, hgd]; exact S1.out.new _ _);have Z2 := hid (show W2.heap.size = gd + 1 by rw [hW2, hgd]; simp);have GD := hid (show gd = w.heap.size + 1 by rw [hgd]; exact Z1.out);have cD := (show Blk (w1.alloc (.cells #[.int .i64 (v : Int), .int .i64 0, .slice none 0 0] 25)) w1.heap.size #[.int .i64 (v : Int), .int .i64 0, .slice none 0 0] 25 from Blk.new _ _ _).cell;go_wp2_with ((with_reducible refine wpList_store_d3b #[.int .i64 (v : Int), .int .i64 0, .slice none 0 0] rfl ?_ ?_ ?_ ?_ ?_); (· rfl); (· rfl); (· rfl); (· simp [Value.oneCell']));rw [← hW2];try rw [← hgd]
 clear cD hW2 hgd S1;refine (drawSlots W2 g ca n cap (p + 1) v S2.out.a (by have := HP.out; omega) (by omega) (fun x hx => by have := HC.out x hx; have := Z2.out; have := GD.out; omega)).mono ?_;rintro e w3 ⟨l, nl, a1, c1, p3, rfl, ds, hnl, hp3⟩
 have S3 := hid (show DK w g ca n cap [(gd, 25, #[.int .i64 (v : Int), .int .i64 0, .slice none 0 0]), (w.heap.size, 25, #[.int .i64 0, .int .i64 0, .slice none 0 0])] l nl a1 c1 p3 w3 from
  ⟨S2.out.rd ds.w ds.a, ds.row.low (by have := Z2.out; have := GD.out; omega), ds.ln, fun u hu x hx => by
   have h1 := (ds.row.lt x hx).1;have h2 := Z2.out;have h3 := GD.out;simp only [List.mem_cons, List.not_mem_nil, or_false] at hu;rcases hu with rfl | rfl
   ·show x.block ≠ gd; omega
   show x.block ≠ w.heap.size; omega, fun s hs => by have := ds.ok s hs; omega⟩)
 have NL := hid hnl;have P3 := hid hp3;clear ds hnl hp3 S2;have cD := (S3.out.r.x _ (.head _)).1.cell;have fD := (S3.out.r.x _ (.head _)).1.free
 have NEX := hid (show ∀ u ∈ [(w.heap.size, 25, (#[.int .i64 0, .int .i64 0, .slice none 0 0] : Array Value))], u.1 ≠ gd from fun u hu => by
  simp only [List.mem_cons, List.not_mem_nil, or_false] at hu;subst hu;have := GD.out;show w.heap.size ≠ gd
  omega)
 have GDL := hid (show w.heap.size ≤ gd by have := GD.out; omega);obtain ⟨w4, hw4⟩ : ∃ u, u = w3.setCell ⟨gd, 2, none⟩ (.slice a1 nl c1) := ⟨_, rfl⟩
 have S4 := hid (show DK w g ca n cap [(gd, 25, #[.int .i64 (v : Int), .int .i64 0, .slice a1 nl c1]), (w.heap.size, 25, #[.int .i64 0, .int .i64 0, .slice none 0 0])] l nl a1 c1 p3 w4 by
  rw [hw4]
  exact S3.out.top HC.out (fun c hc => heap_setCell_other _ _ _ _ hc) ((S3.out.r.x _ (.head _)).1.set (o := 2) (.slice a1 nl c1)) ((Below.refl _ _).setCell GDL.out _) NEX.out)
 go_wp2_with fail;rw [← hw4];clear hw4 cD fD S3;go_loopw [4] (fun s4 wr => ∃ k : Nat, k ≤ nl ∧ s4 = .int .i64 (k : Int) ∧ wr = w4) (fun s4 _ => nl - (intOf s4).toNat);case atStart => exact ⟨0, Nat.zero_le _, rfl, rfl⟩
 obtain ⟨k, hk, rfl, rfl⟩ := hrel;have cD := (S4.out.r.x _ (.head _)).1.cell;have fD := (S4.out.r.x _ (.head _)).1.free;have e9 : IntKind.i64.wrap ((k : Int) + 1) = (k : Int) + 1 := by have := NL.out; go_arith
 have FIN := hid (show k ≤ nl from hk);by_cases hkl : k < nl
 ·obtain ⟨s, hs⟩ : ∃ s, l[k]? = some s := ⟨_, List.getElem?_eq_getElem (by rw [S4.out.ln]; exact hkl)⟩
  obtain ⟨ga, ea, _, ca0, _⟩ := S4.out.row.cell (flat_at l k s hs).1;have e1 : (k : Int) < (nl : Int) := by omega
  have u1 : decide ((k : Int) < (nl : Int)) = true := decide_eq_true e1;have e0 : (0 : Int) ≤ (k : Int) := by omega
  by_cases hb : 0 < s.1
  ·have u2 : decide (0 < s.1) = true := decide_eq_true hb;subst ea;go_wp2_with fail;go_roundw;case rel => exact ⟨k + 1, by omega, by go_num, by first | rfl | trivial⟩
   case measure => simp [intOf]; omega
  have u2 : decide (0 < s.1) = false := decide_eq_false hb;subst ea;go_wp2_with fail;clear cD fD;refine (pickW _ g ca n cap p3 ((k : Int) + 1) S4.out.r.a (by have := P3.out; have := HP.out; omega) (by have := NL.out; omega) (by omega)).mono ?_;rintro e w5 ⟨b, rfl, hb5, hu, ha⟩;have S5 := hid (S4.out.rd hu.w ha);have cD := (S5.out.r.x _ (.head _)).1.cell;have fD := (S5.out.r.x _ (.head _)).1.free;have S6 := hid (show DK w g ca n cap [(gd, 25, #[.int .i64 (v : Int), .int .i64 (b : Int), .slice (some ⟨ga, 0, none⟩) nl c1]), (w.heap.size, 25, #[.int .i64 0, .int .i64 0, .slice none 0 0])] l nl (some ⟨ga, 0, none⟩) c1 (p3 + 1) (w5.setCell ⟨gd, 1, none⟩ (.int .i64 (b : Int))) from S5.out.top HC.out (fun c hc => heap_setCell_other _ _ _ _ hc) ((S5.out.r.x _ (.head _)).1.set (o := 1) (.int .i64 (b : Int))) ((Below.refl _ _).setCell GDL.out _) NEX.out);have k6 := (S6.out.r.x _ (.head _)).1;have kz := (S6.out.r.x _ (.tail _ (.head _))).1;clear hu ha;go_wp2_with (first | ((with_reducible refine wpList_load_d3 gd #[.int .i64 (v : Int), .int .i64 (b : Int), .slice (some ⟨ga, 0, none⟩) nl c1] rfl ?_ ?_ ?_); (· rfl); (· exact k6)) | ((with_reducible refine wpList_store_d3 w.heap.size #[.int .i64 0, .int .i64 0, .slice none 0 0] #[.int .i64 (v : Int), .int .i64 (b : Int), .slice (some ⟨ga, 0, none⟩) nl c1] rfl rfl ?_ ?_ ?_ ?_ ?_); (· rfl); (· rfl); (· exact kz); (· simp [Value.oneCell'])));have hz := setRow_heap _ w.heap.size _ #[.int .i64 (v : Int), .int .i64 (b : Int), .slice (some ⟨ga, 0, none⟩) nl c1] _ _ kz;refine ret_cell (ty := 25) Try.results58 w.heap.size #[.int .i64 (v : Int), .int .i64 (b : Int), .slice (some ⟨ga, 0, none⟩) nl c1] _ ?_ ?_ hz Try.underlying25 rfl (by kernel_rfl) ?_
  ·rfl
  ·rfl
  exact ⟨_, _, l, nl, (some ⟨ga, 0, none⟩), c1, _, rfl, S6.out.ends (.tail _ (.head _)) HC.out, by omega, by have := NL.out; omega, by have := NL.out; omega, by have := P3.out; omega⟩
 have e1 : ¬ (k : Int) < (nl : Int) := by omega
 have u1 : decide ((k : Int) < (nl : Int)) = false := decide_eq_false e1;go_wp2_with fail;clear cD fD;refine (pickW _ g ca n cap p3 ((k : Int) + 1) S4.out.r.a (by have := P3.out; have := HP.out; omega) (by have := NL.out; omega) (by omega)).mono ?_;rintro e w5 ⟨b, rfl, hb5, hu, ha⟩;have S5 := hid (S4.out.rd hu.w ha);have cD := (S5.out.r.x _ (.head _)).1.cell;have fD := (S5.out.r.x _ (.head _)).1.free;have S6 := hid (show DK w g ca n cap [(gd, 25, #[.int .i64 (v : Int), .int .i64 (b : Int), .slice a1 nl c1]), (w.heap.size, 25, #[.int .i64 0, .int .i64 0, .slice none 0 0])] l nl a1 c1 (p3 + 1) (w5.setCell ⟨gd, 1, none⟩ (.int .i64 (b : Int))) from S5.out.top HC.out (fun c hc => heap_setCell_other _ _ _ _ hc) ((S5.out.r.x _ (.head _)).1.set (o := 1) (.int .i64 (b : Int))) ((Below.refl _ _).setCell GDL.out _) NEX.out);have k6 := (S6.out.r.x _ (.head _)).1;have kz := (S6.out.r.x _ (.tail _ (.head _))).1;clear hu ha;go_wp2_with (first | ((with_reducible refine wpList_load_d3 gd #[.int .i64 (v : Int), .int .i64 (b : Int), .slice a1 nl c1] rfl ?_ ?_ ?_); (· rfl); (· exact k6)) | ((with_reducible refine wpList_store_d3 w.heap.size #[.int .i64 0, .int .i64 0, .slice none 0 0] #[.int .i64 (v : Int), .int .i64 (b : Int), .slice a1 nl c1] rfl rfl ?_ ?_ ?_ ?_ ?_); (· rfl); (· rfl); (· exact kz); (· simp [Value.oneCell'])));have hz := setRow_heap _ w.heap.size _ #[.int .i64 (v : Int), .int .i64 (b : Int), .slice a1 nl c1] _ _ kz;refine ret_cell (ty := 25) Try.results58 w.heap.size #[.int .i64 (v : Int), .int .i64 (b : Int), .slice a1 nl c1] _ ?_ ?_ hz Try.underlying25 rfl (by kernel_rfl) ?_
 ·rfl
 ·rfl
 exact ⟨_, _, l, nl, a1, c1, _, rfl, S6.out.ends (.tail _ (.head _)) HC.out, by omega, by have := NL.out; omega, by have := NL.out; omega, by have := P3.out; omega⟩
section
variable {P : Program} {ops : Array Oper} {Q : Exit → Act → World → Prop} {md : Region.Mode} {S : World → Prop} {z : Nat}
/-- number u waits for number i, or for one that does, .. -/
def reachB (md : Region.Mode) (ops : Array Oper) : Nat → Nat → Nat → Bool
 | 0, _, _ => false
 | n + 1, u, i => match ops[u]? with
  | some o => o.after.any fun e => Region.binds md e && (e.on == i || reachB md ops n e.on i)
  | none => false
/-- what is done has done what it waits for -/
def DoneC (md : Region.Mode) (ops : Array Oper) (L : Array Bool) : Prop := ∀ j oj, ops[j]? = some oj → L.getD j false = true → ∀ e ∈ oj.after, Region.binds md e = true → L.getD e.on false = true
def closedB (md : Region.Mode) (ops : Array Oper) (L : Array Bool) : Bool := (List.range ops.size).all fun j => !(L.getD j false) || (match ops[j]? with | some o => o.after.all (fun e => !(Region.binds md e) || L.getD e.on false) | none => true)
theorem closed_of (h : closedB md ops L = true) : DoneC md ops L := fun j oj hj hd e he hb => by
 have hlt : j < ops.size := (Array.getElem?_eq_some_iff.1 hj).1;have h1 := List.all_eq_true.1 h j (List.mem_range.2 hlt);rw [hd, hj] at h1;simp only [Bool.not_true, Bool.false_or] at h1;have h2 := Array.all_eq_true_iff_forall_mem.1 h1 e he;rw [hb] at h2;simpa using h2
theorem reach_done (hC : DoneC md ops L) (i : Nat) : ∀ (n u : Nat), reachB md ops n u i = true → (∃ o, ops[u]? = some o ∧ ∀ e ∈ o.after, Region.binds md e = true → L.getD e.on false = true) → L.getD i false = true
 | 0, u, h, _ => by simp [reachB] at h
 | n + 1, u, h, ⟨o, ho, hall⟩ => by
  unfold reachB at h;rw [ho] at h;simp only [Array.any_eq_true, Bool.and_eq_true, Bool.or_eq_true, beq_iff_eq] at h;obtain ⟨k, hk, hb, h1⟩ := h;have hd := hall _ (Array.getElem_mem hk) hb;rcases h1 with h1 | h1
  ·rw [h1] at hd; exact hd
  ·cases n with
   | zero => simp [reachB] at h1
   | succ n =>
    have h2 : ∃ o2, ops[(o.after[k]).on]? = some o2 := by
     unfold reachB at h1;cases hx : ops[(o.after[k]).on]? with
     | none => rw [hx] at h1; simp at h1
     | some o2 => exact ⟨o2, rfl⟩
    obtain ⟨o2, ho2⟩ := h2;exact reach_done hC i (n + 1) _ h1 ⟨o2, ho2, fun e he hb => hC _ o2 ho2 hd e he hb⟩
theorem DoneC.step {j : Nat} (h : DoneC md ops L) (hj : j ∈ Region.ready md ops L) : DoneC md ops (L.setIfInBounds j true) := fun u ou hu hd e he hb => by
 obtain ⟨_, oj, hoj, hall⟩ := mem_ready.1 hj;by_cases huj : j = u
 ·subst huj;rw [hoj] at hu;simp only [Option.some.injEq] at hu;subst hu;exact getD_set_true (hall e he hb)
 ·rw [getD_set_ne false huj] at hd;exact getD_set_true (h u ou hu hd e he hb)
theorem wpLast.first2 (hi : ops[i]? = some o) (hsel : Region.noSelect ops = true) (hQ : ∀ c a w, Q (.panic c) (a.put o.dst v) w → Q (.panic c) a w) {n : Nat} (hz : reachB md ops n z i = true) (f : Nat) :
  ∀ (L : Array Bool) (a : Act) (w : World), DoneC md ops L → (∀ j oj, ops[j]? = some oj → j ≠ i → L.getD j true = false → (∀ e ∈ oj.after, Region.binds md e = true → e.on ≠ i) → o.apart ops oj = true) →
   i ∈ Region.ready md ops L → YieldsIf P ops S o v a → S w → wpLast P md ops Q S z f (L.setIfInBounds i true) (a.put o.dst v) w → wpLast P md ops Q S z (f + 1) L a w := by
 induction f with
 | zero =>
  intro L a w _ _ hr hy hS H;refine ⟨fun h => absurd (h ▸ hr) (by simp), fun j hj => ?_⟩;rcases Nat.decEq j i with hne | rfl
  ·have h0 := ready_mono hj hne;rw [H.1] at h0;simp at h0
  ·exact hy.wpOp hi hS ⟨fun _ => hS, H⟩
 | succ f ih =>
  intro L a w hC hf hr hy hS H;refine ⟨fun h => absurd (h ▸ hr) (by simp), fun j hj => ?_⟩;rcases Nat.decEq j i with hne | rfl
  ·obtain ⟨un, oj, hoj, hall⟩ := mem_ready.1 hj;have un0 := (mem_ready.1 hr).1;have unf : ¬ L.getD i false = true := fun h1 => by
    rcases Nat.lt_or_ge i L.size with lt | ge
    ·simp [lt] at un0 h1;rw [un0] at h1;cases h1
    ·simp [Array.getElem?_eq_none ge] at h1
   have hno : ∀ e ∈ oj.after, Region.binds md e = true → e.on ≠ i := by
    intro e he hb q;have h1 := hall e he hb;rw [q] at h1;exact unf h1
   have hjz : j ≠ z := by
    rintro rfl;exact unf (reach_done hC i n _ hz ⟨oj, hoj, hall⟩)
   have h2 := wpOp_putIf hoj (hf j oj hoj hne un hno) (fun cs b => Region.noSelect_spec hsel i o cs b hi) (fun cs b => Region.noSelect_spec hsel j oj cs b hoj) hQ hy (H.2 j (ready_mono hj hne));refine wpOp_mono (fun a' w' k => ⟨k.2.1, ih _ a' w' (hC.step hj) (fun x ox hx hxi hun hn => hf x ox hx hxi ?_ hn) (ready_mono hr (Ne.symm hne)) k.1 (k.2.1 hjz) ?_⟩) h2
   ·rcases Nat.decEq j x with ne | rfl
    ·rw [getD_set_ne true ne] at hun; exact hun
    ·exact un
   ·rw [Array.setIfInBounds_comm _ _ hne];exact k.2.2
  ·exact hy.wpOp hi hS ⟨fun _ => hS, H⟩
/-- number i is taken first -/
theorem wpLast_take2 {f : Nat} {a : Act} (hi : ops[i]? = some o) (hz : (reachB md ops 12 z i && closedB md ops L) = true) (hs : Region.noSelect ops = true) (hf : Region.free md ops L i = true) (hr : (Region.ready md ops L).contains i = true)
  (hQ : ∀ c a w, Q (.panic c) (a.put o.dst v) w → Q (.panic c) a w) (hy : YieldsIf P ops S o v a) (hS : S w) (h : wpLast P md ops Q S z f (L.setIfInBounds i true) (a.put o.dst v) w) : wpLast P md ops Q S z (f + 1) L a w := by
 simp only [Bool.and_eq_true] at hz;exact wpLast.first2 hi hs hQ hz.1 f L a w (closed_of hz.2) (Region.free_spec hi hf) (by simpa using hr) hy hS h
def planR (P : Program) (md : Region.Mode) (ops : Array Oper) (Q : Exit → Act → World → Prop) (S : World → Prop) (z : Nat) (l : List Nat) (f : Nat) (L : Array Bool) (a : Act) (w : World) : Prop := wpLast P md ops Q S z f L a w
variable {f i : Nat} {L : Array Bool} {a : Act} {w : World} {o : Oper} {v : Value} {l : List Nat}
theorem planR.go (l : List Nat) (h : planR P md ops Q S z l f L a w) : wpLast P md ops Q S z f L a w := h
theorem planR.fin (h : wpLast P md ops Q S z f L a w) : planR P md ops Q S z [] f L a w := h
theorem planR.take (hi : ops[i]? = some o) (hk : (reachB md ops 12 z i && closedB md ops L && (Region.noSelect ops && (Region.free md ops L i && (Region.ready md ops L).contains i))) = true) (hw : Region.wanted o (yielded ops a.tmps) = true)
  (hQ : ∀ c a w, Q (.panic c) (a.put o.dst v) w → Q (.panic c) a w) (hS : S w) (hy : ∀ w, S w → (execOp a.eval o).run P w = .ok (.value v) w) (h : planR P md ops Q S z l f (L.setIfInBounds i true) (a.put o.dst v) w) : planR P md ops Q S z (i :: l) (f + 1) L a w := by
 obtain ⟨h1, h2⟩ := Bool.and_eq_true_iff.1 hk;obtain ⟨h3, h4⟩ := Bool.and_eq_true_iff.1 h2;obtain ⟨h5, h6⟩ := Bool.and_eq_true_iff.1 h4;exact wpLast_take2 hi h1 h3 h5 h6 hQ (.inl ⟨hw, hy⟩) hS h
end
/-- the recorders l lie behind the address a -/
def RecsAt (w : World) (a : Option Addr) (l : List Rc) : Prop :=
 ∀ (i : Nat) r, l[i]? = some r → ∃ b off p, a = some ⟨b, off, none⟩ ∧ b < w.heap.size ∧ w.rangeAt b (off + i * 18) (rcV r p).toList ∧ RcAt w r p
theorem range_ext {o : Nat} {cs : List Value} (h : w.rangeAt b o cs) (hb : Below w.heap.size w w') (hlt : b < w.heap.size) : w'.rangeAt b o cs := fun j v hv =>
 (hb.cell (p := ⟨b, o + j, none⟩) hlt).trans (h j v hv)
theorem RecsAt.ext {a : Option Addr} {l : List Rc} (h : RecsAt w a l) (hb : Below w.heap.size w w') : RecsAt w' a l := fun i r hr => by
 obtain ⟨b, off, p, ha, hlt, hc, hR⟩ := h i r hr;exact ⟨b, off, p, ha, Nat.lt_of_lt_of_le hlt hb.size, range_ext hc hb hlt, hR.ext hb⟩
def RecsSmall (l : List Rc) : Prop := ∀ (i : Nat) r, l[i]? = some r → RcSmall r
/-- an impl.Recorder out of the middle of a block -/
theorem wpList_load_imid {ops : Array Oper} {rest : List Oper} {dst : Option Tmp} {x : Operand} {τ : TypeId} {pos : String} {after : Array Edge} {a : Act} {w : World} {Q : Exit → Act → World → Prop}
  (b o : Nat) (cs : Array Value) (hs : cs.size = 18) (hx : a.eval x = .pointer (some ⟨b, o, none⟩)) (hg : w.rangeAt b o cs.toList)
  (h : wpList Try.prog ops Q rest (a.put dst (.agg cs)) w) :
  wpList Try.prog ops Q ({ dst := dst, op := .load 31 x, type := τ, pos := pos, after := after, guard := none } :: rest) a w :=
 wpList_load_mid (op := { dst := dst, op := .load 31 x, type := τ, pos := pos, after := after, guard := none }) rfl 31 x rfl b o hx cs.toList _ hg Try.underlying31 rfl (by rw [Array.length_toList, hs]; kernel_rfl) (by rw [Array.toArray_toList]; exact h)
/-- an impl.Recorder into the middle of a block -/
theorem wpList_store_imid {ops : Array Oper} {rest : List Oper} {dst : Option Tmp} {x y : Operand} {τ : TypeId} {pos : String} {after : Array Edge} {a : Act} {w : World} {Q : Exit → Act → World → Prop}
  (b o : Nat) (cells : Array Value) (hs : cells.size = 18) (hx : a.eval x = .pointer (some ⟨b, o, none⟩)) (hy : a.eval y = .agg cells) (ht : w.there b o 18) (h1 : cells.all (·.oneCell') = true)
  (h : wpList Try.prog ops Q rest (a.put dst undef) (w.setCells b o cells.toList)) :
  wpList Try.prog ops Q ({ dst := dst, op := .store 31 x y, type := τ, pos := pos, after := after, guard := none } :: rest) a w :=
 wpList_store_mid (op := { dst := dst, op := .store 31 x y, type := τ, pos := pos, after := after, guard := none }) rfl 31 x y rfl b o cells hx hy (by rw [hs]; exact ht) (by rw [hs]; kernel_rfl) h1 h
theorem rcV_one (r : Rc) (p : RcP) : (rcV r p).all (·.oneCell') = true := by simp [Value.oneCell']
theorem setCells_other (b : Nat) : ∀ (vs : List Value) (o : Nat) (w : World) (i : Nat), i ≠ b → (w.setCells b o vs).heap[i]? = w.heap[i]?
 | [], _, _, _, _ => by simp [World.setCells]
 | v :: r, o, w, i, h => by
  rw [World.setCells];exact (setCells_other b r (o + 1) _ i h).trans (heap_setCell_other w ⟨b, o, none⟩ i v h)
theorem below_setCells {B : Nat} (h : Below B w w') (b : Nat) (hb : B ≤ b) : ∀ (vs : List Value) (o : Nat), Below B w (w'.setCells b o vs) := fun vs => by
 induction vs generalizing w' with
 | nil => intro o; simpa [World.setCells] using h
 | cons v r ih =>
  intro o;rw [World.setCells];exact ih (h.setCell hb v) (o + 1)
theorem Blk.there {C : Array Value} {t : TypeId} (h : Blk w b C t) {o n : Nat} (hs : o + n ≤ C.size) : w.there b o n := fun j hj =>
 ⟨by rw [h.cell, Array.getElem?_eq_getElem (by omega)]; rfl, h.free _⟩
theorem infoRec : (Try.prog.info? 31).map (fun i => (i.zero, i.size, i.bytes)) = some (some (.agg #[.int .i64 0, .int .i64 0, .bool false, .int .i64 0, .int .i64 0, .slice none 0 0, .int .i64 0, .int .i64 0, .slice none 0 0, .slice none 0 0, .slice none 0 0, .bool false, .bool false, .int .i64 0, .slice none 0 0, .slice none 0 0, .slice none 0 0, .int .i64 0]), 18, 248) := by kernel_rfl
def zeroRec : Array Value := #[.int .i64 0, .int .i64 0, .bool false, .int .i64 0, .int .i64 0, .slice none 0 0, .int .i64 0, .int .i64 0, .slice none 0 0, .slice none 0 0, .slice none 0 0, .bool false, .bool false, .int .i64 0, .slice none 0 0, .slice none 0 0, .slice none 0 0, .int .i64 0]


/-- a world's data -/
structure Wd where
 recs : List Rc
 fl : List Ms
 fx : List Sl
/-- where its lists lie -/
structure WdP where
 aR : Option Addr
 cR : Nat
 aF : Option Addr
 cF : Nat
 aX : Option Addr
 cX : Nat
abbrev wdV (d : Wd) (p : WdP) : Array Value := #[.slice p.aR d.recs.length p.cR, .slice p.aF d.fl.length p.cF, .slice p.aX d.fx.length p.cX]
structure WdAt (w : World) (d : Wd) (p : WdP) : Prop where
 hR : RecsAt w p.aR d.recs
 lR : d.recs.length ≤ maxLen
 hF : MsgsAt w p.aF d.fl
 lF : d.fl.length ≤ maxLen
 hX : SlotsAt w p.aX d.fx
 lX : d.fx.length ≤ maxLen
theorem WdAt.ext {d : Wd} {p : WdP} (h : WdAt w d p) (hb : Below w.heap.size w w') : WdAt w' d p :=
 ⟨h.hR.ext hb, h.lR, h.hF.ext hb, h.lF, h.hX.ext hb, h.lX⟩
structure WdSmall (d : Wd) : Prop where
 lR : d.recs.length ≤ 1048576
 nR : RecsSmall d.recs
 lF : d.fl.length ≤ 1048576
 nF : MsgsSmall d.fl
 lX : d.fx.length ≤ 1048576







def keysF (l : List Sl) : List Int := l.map fun s => s.1
theorem keysF_at {s : Sl} (h : l[k]? = some s) : (keysF l)[k]? = some s.1 := by simp [keysF, h]
theorem keysF_len (l : List Sl) : (keysF l).length = l.length := by simp [keysF]
def fixOkB (l : List Sl) : Bool := numsOkB 60 (keysF l) && l.all fun s => decide (s.2.size ≤ 100)
def recB (n : Nat) (i : Nat) (r : Rc) : Bool := validB r && decide (r.num = (i : Int) + 1) && decide (r.of_ = (n : Int))
def recsB (l : List Rc) : Bool := (List.range l.length).all fun i => match l[i]? with | some r => recB l.length i r | none => true
def flB (of_ : Nat) (l : List Ms) : Bool := decide (l.length ≤ 600) && l.all fun m => msgOkB m.1 of_ m.2
def worldOkB (d : Wd) : Bool := inB d.recs.length 1 5 && recsB d.recs && flB d.recs.length d.fl && fixOkB d.fx
theorem recs_of {l : List Rc} (hn : l.length = n) (h : ∀ (i : Nat) r, i < n → l[i]? = some r → recB n i r = true) : recsB l = true := by
 subst hn;unfold recsB;rw [List.all_eq_true];intro i hi;have hi' : i < l.length := by simpa using hi
 rw [List.getElem?_eq_getElem hi'];exact h i _ hi' (List.getElem?_eq_getElem hi')
theorem not_recs {l : List Rc} {r : Rc} (hn : l.length = n) (hs : l[k]? = some r) (h : recB n k r = false) : recsB l = false := by
 subst hn;unfold recsB;rw [List.all_eq_false];exact ⟨k, by simpa using (List.getElem?_eq_some_iff.1 hs).1, by rw [hs]; simp [h]⟩
theorem allL_of {α : Type} {f : α → Bool} {l : List α} {n : Nat} (hn : l.length = n) (h : ∀ (i : Nat) s, i < n → l[i]? = some s → f s = true) : l.all f = true := by
 rw [List.all_eq_true];intro s hs;obtain ⟨i, hi, rfl⟩ := List.getElem_of_mem hs;exact h i _ (by omega) (List.getElem?_eq_getElem hi)
theorem not_all {α : Type} {f : α → Bool} {l : List α} {k : Nat} {s : α} (hs : l[k]? = some s) (h : f s = false) : l.all f = false := by
 rw [List.all_eq_false];exact ⟨s, List.mem_of_getElem? hs, by simp [h]⟩
end Go.Proofs.Ytjdceoimignnpaa
