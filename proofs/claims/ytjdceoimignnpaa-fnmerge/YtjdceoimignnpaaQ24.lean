import Derived.Test.YtjdceoimignnpaaQ23
namespace Go.Proofs.Ytjdceoimignnpaa
open Go.ChangeShapes Go.WideShapes Go.ChangeAt Go.RowKit next
set_option linter.unusedVariables false
set_option linter.unusedSimpArgs false
set_option maxHeartbeats 32000000
set_option maxRecDepth 20000
variable {l : List Sl} {c' cap g n nl p : Nat} {a' ca : Option Addr} {w' w0 wr : World}
def BytesAt (w : World) (ca : Option Addr) (n : Nat) : Prop := ∀ i, i < n → ∃ b off v, ca = some ⟨b, off, none⟩ ∧ b < w.heap.size ∧ 0 ≤ v ∧ v < 256 ∧ w.cell? ⟨b, off + i, none⟩ = some (.int .u8 v)
theorem BytesAt.ext {w : World} (h : BytesAt w ca n) (hb : Below w.heap.size w w') : BytesAt w' ca n := fun i hi => by
 obtain ⟨b, off, v, h1, h2, h3, h4, h5⟩ := h i hi;exact ⟨b, off, v, h1, Nat.lt_of_lt_of_le h2 hb.size, h3, h4, (World.cell?_of_block (a := ⟨b, off + i, none⟩) (hb.block b h2)).trans h5⟩
theorem openW (w : World) (ca : Option Addr) (n cap : Nat) (h : BytesAt w ca n) (hc : n ≤ cap) (hm : cap ≤ maxLen) :
  Calls Try.prog 28 #[.slice ca n cap] w fun e w' => ∃ n', e = .returned (.pointer (some ⟨w.heap.size, 0, none⟩)) ∧ RdA w' w.heap.size ca n' cap 0 ∧ Below w.heap.size w w' ∧ w'.heap.size = w.heap.size + 1 := by
 unfold maxLen at hm;have key : ∀ n', n' ≤ n → n' ≤ 2000 → RdA (w.alloc (.cells #[.slice ca n' cap, .int .i64 0] 96)) w.heap.size ca n' cap 0 := fun n' h1 h2 =>
  ⟨Blk.new _ _ _, fun i hi => by
   obtain ⟨b, off, v, e1, e2, e3, e4, e5⟩ := h i (by omega)
   exact ⟨b, off, v, e1, by simp; omega, by omega, e3, e4, (World.cell?_of_block (a := ⟨b, off + i, none⟩) ((ext_alloc (Below.refl w.heap.size w) _).block b e2)).trans e5⟩, h2⟩
 have KEY := hid key;have HN := hid hc;clear key h;by_cases h2 : 2000 < n
 ·have e1 : (2000 : Int) < (n : Int) := by omega
  have u1 : decide ((2000 : Int) < (n : Int)) = true := decide_eq_true e1;have e2 : (2000 : Int) ≤ (cap : Int) := by omega
  have e3 : 2000 ≤ cap := by omega
  go_enter Try.func28, Try.ntmps28;go_wp2_with fail;go_ret;exact ⟨2000, rfl, KEY.out 2000 (by omega) (by omega), ext_alloc (Below.refl _ _) _, by simp⟩
 have e1 : ¬ (2000 : Int) < (n : Int) := by omega
 have u1 : decide ((2000 : Int) < (n : Int)) = false := decide_eq_false e1;go_enter Try.func28, Try.ntmps28;go_wp2_with fail;go_ret;exact ⟨rfl, ⟨n, KEY.out n (Nat.le_refl _) (by omega)⟩, ext_alloc (Below.refl _ _) _, by simp⟩
theorem wpList_load_s2 {ops : Array Oper} {rest : List Oper} {dst : Option Tmp} {x : Operand} {τ : TypeId} {pos : String} {after : Array Edge} {a : Act} {w : World} {Q : Exit → Act → World → Prop}
  (g : Nat) (cs : Array Value) (hs : cs.size = 2) (hx : a.eval x = .pointer (some ⟨g, 0, none⟩)) (hg : Blk w g cs 43)
  (h : wpList Try.prog ops Q rest (a.put dst (.agg cs)) w) :
  wpList Try.prog ops Q ({ dst := dst, op := .load 43 x, type := τ, pos := pos, after := after, guard := none } :: rest) a w :=
 wpList_load_blk g cs _ hx hg Try.underlying43 rfl (by rw [hs]; kernel_rfl) h
theorem wpList_store_s2 {ops : Array Oper} {rest : List Oper} {dst : Option Tmp} {x y : Operand} {τ : TypeId} {pos : String} {after : Array Edge} {a : Act} {w0 : World} {c : Array Value} {Q : Exit → Act → World → Prop}
  (cells : Array Value) (hs : cells.size = 2) (hx : a.eval x = .pointer (some ⟨w0.heap.size, 0, none⟩)) (hy : a.eval y = .agg cells) (hc : c.size = 2) (h1 : cells.all (·.oneCell') = true)
  (h : wpList Try.prog ops Q rest (a.put dst undef) (w0.alloc (.cells cells 43))) :
  wpList Try.prog ops Q ({ dst := dst, op := .store 43 x y, type := τ, pos := pos, after := after, guard := none } :: rest) a (w0.alloc (.cells c 43)) :=
 wpList_store_last cells hx hy (by rw [hs]; kernel_rfl) (by rw [hc, hs]) h1 h
structure DS (w0 : World) (g : Nat) (ca : Option Addr) (n cap : Nat) (l : List Sl) (nl : Nat) (a' : Option Addr) (c' p : Nat) (wr : World) : Prop where
 row : RowC w0.heap.size wr (fun _ => 0) 0 43 2 a' nl c' (flat l)
 ln : l.length = nl
 a : RdA wr g ca n cap p
 w : RdW g w0 wr
 l0 : g < w0.heap.size
 c : ∀ x, ca = some x → x.block < w0.heap.size
 ok : ∀ s ∈ l, 0 ≤ s.1 ∧ s.1 ≤ 1000 ∧ s.2.size ≤ 2
theorem DS.low2 {o : Obj} (h : DS w0 g ca n cap l nl a' c' p wr) : w0.heap.size ≤ (wr.alloc o).heap.size := by
 have := h.w.size;simp;omega
theorem DS.rd {p' : Nat} (h : DS w0 g ca n cap l nl a' c' p wr) (hw : RdW g wr w') (ha : RdA w' g ca n cap p') : DS w0 g ca n cap l nl a' c' p' w' :=
 ⟨h.row.same fun x hx => hw.block _ (h.row.lt x hx).2 (by have := (h.row.lt x hx).1; have := h.l0; omega), h.ln, ha, h.w.trans hw, h.l0, h.c, h.ok⟩
theorem DS.ext (h : DS w0 g ca n cap l nl a' c' p wr) (hb : Below wr.heap.size wr w') : DS w0 g ca n cap l nl a' c' p w' := ⟨h.row.ext hb, h.ln, h.a.ext hb, h.w.ext hb, h.l0, h.c, h.ok⟩
theorem DS.box (h : DS w0 g ca n cap l nl a' c' p wr) {b o : Nat} (hb : w0.heap.size ≤ b) (hne : ∀ x, a' = some x → x.block ≠ b) (v : Value) : DS w0 g ca n cap l nl a' c' p (wr.setCell ⟨b, o, none⟩ v) := by
 have hB : Below w0.heap.size wr (wr.setCell ⟨b, o, none⟩ v) := (Below.refl _ _).setCell hb _;exact ⟨h.row.same fun x hx => heap_setCell_other _ ⟨b, o, none⟩ _ _ (hne x hx), h.ln, h.a.low h.l0 h.c hB, h.w.below hB, h.l0, h.c, h.ok⟩
theorem DS.app {w6 w7 : World} (h : DS w0 g ca n cap l nl a' c' p wr) (hb : Below wr.heap.size wr w6) {s : Sl} {a2 : Option Addr} {c2 : Nat} (ho : w7.ownsRow w0.heap.size 43 2 (.slice a2 (nl + 1) c2) (nl + 1) (flat l ++ [.int .i64 s.1, .string s.2])) (hg : w6.grownBy w7 (Value.slice a' nl c').ownBlock) (hs : 0 ≤ s.1 ∧ s.1 ≤ 1000 ∧ s.2.size ≤ 2) : DS w0 g ca n cap (l ++ [s]) (nl + 1) a2 c2 p w7 := by
 have h6 := h.ext hb
 have hB : Below w0.heap.size w6 w7 := below_grow (Below.refl _ _) hg (fun jj hjj => by
  cases ha : a' with
  | none => rw [ha] at hjj; simp [Value.ownBlock] at hjj
  | some x => rw [ha] at hjj; simp only [Value.ownBlock, Option.some.injEq] at hjj; rw [← hjj]; exact (h6.row.lt x ha).1) h6.w.size
 refine ⟨⟨by rw [flat_app]; exact ho, fun _ _ => rfl⟩, by simp [h.ln], h6.a.low h.l0 h.c hB, h6.w.below hB, h.l0, h.c, fun u hu => ?_⟩;rcases List.mem_append.1 hu with hu | hu
 ·exact h.ok u hu
 simp only [List.mem_cons, List.not_mem_nil, or_false] at hu;subst hu;exact hs
theorem drawSlots (w : World) (g : Nat) (ca : Option Addr) (n cap p most : Nat) (h : RdA w g ca n cap p) (hp : p ≤ 800000000) (hm : most ≤ 100) (hc : ∀ x, ca = some x → x.block < w.heap.size) :
  Calls Try.prog 52 #[.pointer (some ⟨g, 0, none⟩), .int .i64 (most : Int)] w fun e w' => ∃ l nl a' c' p', e = .returned (.slice a' nl c') ∧ DS w g ca n cap l nl a' c' p' w' ∧ nl ≤ 5 ∧ p' ≤ p + 30 := by
 have HP := hid hp;have HM := hid hm;have e5 : IntKind.i64.wrap ((most : Int) + 1) = (most : Int) + 1 := by go_arith
 have E5 := hid e5;obtain ⟨V, hV⟩ : ∃ V, V = w.alloc (.cells #[] 43) := ⟨_, rfl⟩
 have hb : Below w.heap.size w V := by rw [hV]; exact ext_alloc (Below.refl _ _) _
 have S0 := hid (show DS w g ca n cap [] 0 (some ⟨w.heap.size, 0, none⟩) 0 p V from
  ⟨⟨⟨rfl, .inr ⟨w.heap.size, 0, #[], rfl, Nat.le_refl _, by rw [hV]; exact Blk.new _ _ _, Nat.le_refl _, Nat.zero_le _, rfl, rfl⟩⟩, fun _ _ => rfl⟩, rfl, h.ext hb, (RdW.refl g w).ext hb, h.k.lt, hc, fun s hs => absurd hs (by simp)⟩)
 clear h hp hm hc hb e5;go_enter Try.func52, Try.ntmps52;go_wp2_with fail;rw [← hV];clear hV;refine (pickW V g ca n cap p 6 S0.out.a (by have := HP.out; omega) (by omega) (by omega)).mono ?_;rintro e w1 ⟨m0, rfl, hm0, hu, ha⟩;have S1 := hid (S0.out.rd hu.w ha);have M0 := hid (show m0 ≤ 5 by omega);clear hu ha S0 hm0;go_wp2_with fail;go_loopw [5, 6, 7] (fun s5 s6 _ wr => ∃ (mm : Nat) (l : List Sl) (nl : Nat) (a1 : Option Addr) (c1 p1 : Nat), mm ≤ 5 ∧ s6 = .int .i64 (mm : Int) ∧ s5 = .slice a1 nl c1 ∧ p1 + 4 * mm ≤ p + 25 ∧ nl + mm ≤ 5 ∧ DS w g ca n cap l nl a1 c1 p1 wr) (fun _ s6 _ _ => (intOf s6).toNat);case atStart => exact ⟨m0, [], 0, _, 0, p + 1, M0.out, rfl, rfl, by have := M0.out; omega, by have := M0.out; omega, S1.out⟩
 obtain ⟨mm, l, nl, a1, c1, p1, hmm, rfl, rfl, hk, hln, hss⟩ := hrel;have D := hid hss;have KB := hid hk;have LB := hid hln;obtain ⟨wn, hwn⟩ : ∃ v : World, v = wr := ⟨_, rfl⟩
 subst hwn;clear hss S1 hk hln;by_cases h0 : 0 < mm
 ·have e3 : (0 : Int) < (mm : Int) := by omega
  have u3 : decide ((0 : Int) < (mm : Int)) = true := decide_eq_true e3;have E9 := hid (show IntKind.i64.wrap ((mm : Int) - 1) = (mm : Int) - 1 by go_arith);have e5 := E5.out;have nl5 := LB.out;go_wp2_with fail;refine (pickW wn g ca n cap p1 ((most : Int) + 1) D.out.a (by have := KB.out; have := HP.out; omega) (by have := HM.out; omega) (by omega)).mono ?_;rintro e w2 ⟨v, rfl, hv, hu, ha⟩;have D2 := hid (D.out.rd hu.w ha);clear hu ha D e5;go_wp2_with fail;refine (textW w2 g ca n cap (p1 + 1) D2.out.a (by have := KB.out; have := HP.out; omega)).mono ?_;rintro e w3 ⟨t, rfl, ht, hw, ha⟩;have D3 := hid (D2.out.rd hw ha);clear hw ha D2;have E4 := hid (show Below w3.heap.size w3 (w3.alloc (.cells #[.int .i64 (v : Int), .string t] 43)) from ext_alloc (Below.refl _ _) _);have cB := (Blk.new w3 #[.int .i64 (v : Int), .string t] 43).cell;have fB := (Blk.new w3 #[.int .i64 (v : Int), .string t] 43).free;by_cases hv0 : v = 0
  ·subst hv0;have D4 := hid (D3.out.ext (ext_alloc (Below.refl _ _) (.cells #[.int .i64 0, .string ⟨#[]⟩] 43)));have kX : Blk (w3.alloc (.cells #[.int .i64 0, .string ⟨#[]⟩] 43)) w3.heap.size #[.int .i64 0, .string ⟨#[]⟩] 43 := Blk.new _ _ _;have TS : (⟨#[]⟩ : ByteArray).size ≤ 2 := by show (0 : Nat) ≤ 2; omega
   have e9 := E9.out;have Y6 := hid (show Below (w3.alloc (.cells #[.int .i64 0, .string ⟨#[]⟩] 43)).heap.size (w3.alloc (.cells #[.int .i64 0, .string ⟨#[]⟩] 43)) ((w3.alloc (.cells #[.int .i64 0, .string ⟨#[]⟩] 43)).alloc (.cells #[.int .i64 0, .string ⟨#[]⟩] 43)) from ext_alloc (Below.refl _ _) _);have OW := (D4.out.row.ext Y6.out).own
   have NEWS : ReadAt ((w3.alloc (.cells #[.int .i64 0, .string ⟨#[]⟩] 43)).alloc (.cells #[.int .i64 0, .string ⟨#[]⟩] 43)) (some ⟨w3.heap.size + 1, 0, none⟩) 1 1 2 [.int .i64 0, .string ⟨#[]⟩] := ⟨rfl, fun e => by simp at e, fun x hx => by
    simp only [Option.some.injEq] at hx;subst hx
    exact ⟨rfl, blk_news (cs := [.int .i64 0, .string ⟨#[]⟩]) (Blk.new' _ _ (by simp))⟩⟩
   go_wp2_with (first
    | ((with_reducible refine wpList_appS w.heap.size a1 nl c1 (flat l) (some ⟨w3.heap.size + 1, 0, none⟩) 1 1 [.int .i64 0, .string ⟨#[]⟩] ?_ ?_ ?_ ?_ ?_ ?_ ?_ ?_); (· rfl); (· rfl); (· exact OW); (· exact NEWS); (· intro u hu; simp at hu; rcases hu with rfl | rfl <;> rfl); (· omega); (· exact D4.out.low2); (intro a2 c2 w7 q1 q2 q3))
    | ((with_reducible refine wpList_load_s2 (w3.heap.size) #[.int .i64 0, .string ⟨#[]⟩] rfl ?_ ?_ ?_); (· rfl); (· exact kX))
    | ((with_reducible refine wpList_store_s2 #[.int .i64 0, .string t] rfl ?_ ?_ ?_ ?_ ?_); (· rfl); (· rfl); (· rfl); (· simp [Value.oneCell'])))
   have G := hid (D4.out.app Y6.out (s := (0, ⟨#[]⟩)) q1 q2 ⟨by show (0 : Int) ≤ 0; omega, by have := HM.out; show 0 ≤ (1000 : Int); omega, TS⟩);clear OW NEWS q1 q2 q3 kX e9;go_roundw;case rel => exact ⟨mm - 1, _, nl + 1, a2, c2, _, by omega, by rw [show ((mm - 1 : Nat) : Int) = (mm : Int) - 1 by omega], rfl, by have := KB.out; omega, by have := LB.out; omega, G.out⟩
   case measure => simp [intOf]; omega
  have ev : ¬ (v : Int) = 0 := by omega
  have uv : ((v : Int) == 0) = false := by simpa using ev
  go_wp2_with ((with_reducible refine wpList_store_s2 #[.int .i64 (v : Int), .string t] rfl ?_ ?_ ?_ ?_ ?_); (· rfl); (· rfl); (· rfl); (· simp [Value.oneCell']));obtain ⟨W4, hW4⟩ : ∃ u, u = w3.alloc (.cells #[.int .i64 (v : Int), .string t] 43) := ⟨_, rfl⟩
  have D4 := hid (show DS w g ca n cap l nl a1 c1 (p1 + 1 + 1) W4 by rw [hW4]; exact D3.out.ext E4.out);have K4 := hid (show Blk W4 w3.heap.size #[.int .i64 (v : Int), .string t] 43 by rw [hW4]; exact Blk.new _ _ _);have NB := hid (show ∀ x, a1 = some x → x.block ≠ w3.heap.size from fun x hx e => by have := (D3.out.row.lt x hx).2; omega);have GB := hid (show w.heap.size ≤ w3.heap.size from D3.out.w.size);rw [← hW4];clear hW4 cB fB E4;refine (pickW W4 g ca n cap (p1 + 1 + 1) 6 D4.out.a (by have := KB.out; have := HP.out; omega) (by omega) (by omega)).mono ?_;rintro e w5 ⟨u, rfl, hu6, hu, ha⟩;have D5 := hid (D4.out.rd hu.w ha);have kX : Blk w5 w3.heap.size #[.int .i64 (v : Int), .string t] 43 := (hu.block _ (by have := D4.out.l0; have := GB.out; omega)).trans K4.out;clear hu ha D4 D3 K4;by_cases hu0 : u = 0
  ·subst hu0;have cB := kX.cell;have fB := kX.free;have D6 := hid (D5.out.box (o := 1) GB.out NB.out (.string ⟨#[]⟩));have kY : Blk (w5.setCell ⟨w3.heap.size, 1, none⟩ (.string ⟨#[]⟩)) w3.heap.size #[.int .i64 (v : Int), .string ⟨#[]⟩] 43 := kX.set (o := 1) (.string ⟨#[]⟩);have TS : (⟨#[]⟩ : ByteArray).size ≤ 2 := by show (0 : Nat) ≤ 2; omega
   have e9 := E9.out;have Y6 := hid (show Below (w5.setCell ⟨w3.heap.size, 1, none⟩ (.string ⟨#[]⟩)).heap.size (w5.setCell ⟨w3.heap.size, 1, none⟩ (.string ⟨#[]⟩)) ((w5.setCell ⟨w3.heap.size, 1, none⟩ (.string ⟨#[]⟩)).alloc (.cells #[.int .i64 (v : Int), .string ⟨#[]⟩] 43)) from ext_alloc (Below.refl _ _) _);have OW := (D6.out.row.ext Y6.out).own
   have NEWS : ReadAt ((w5.setCell ⟨w3.heap.size, 1, none⟩ (.string ⟨#[]⟩)).alloc (.cells #[.int .i64 (v : Int), .string ⟨#[]⟩] 43)) (some ⟨w5.heap.size, 0, none⟩) 1 1 2 [.int .i64 (v : Int), .string ⟨#[]⟩] := ⟨rfl, fun e => by simp at e, fun x hx => by
    simp only [Option.some.injEq] at hx;subst hx
    exact ⟨rfl, blk_news (cs := [.int .i64 (v : Int), .string ⟨#[]⟩]) (Blk.new' _ _ (by simp))⟩⟩
   go_wp2_with (first
    | ((with_reducible refine wpList_appS w.heap.size a1 nl c1 (flat l) (some ⟨w5.heap.size, 0, none⟩) 1 1 [.int .i64 (v : Int), .string ⟨#[]⟩] ?_ ?_ ?_ ?_ ?_ ?_ ?_ ?_); (· rfl); (· rfl); (· exact OW); (· exact NEWS); (· intro u hu; simp at hu; rcases hu with rfl | rfl <;> rfl); (· omega); (· exact D6.out.low2); (intro a2 c2 w7 q1 q2 q3))
    | ((with_reducible refine wpList_load_s2 (w3.heap.size) #[.int .i64 (v : Int), .string ⟨#[]⟩] rfl ?_ ?_ ?_); (· rfl); (· exact kY)))
   have G := hid (D6.out.app Y6.out (s := ((v : Int), ⟨#[]⟩)) q1 q2 ⟨by show (0 : Int) ≤ (v : Int); omega, by have := HM.out; show (v : Int) ≤ (1000 : Int); omega, TS⟩);clear OW NEWS q1 q2 q3 kY e9;go_roundw;case rel => exact ⟨mm - 1, _, nl + 1, a2, c2, _, by omega, by rw [show ((mm - 1 : Nat) : Int) = (mm : Int) - 1 by omega], rfl, by have := KB.out; omega, by have := LB.out; omega, G.out⟩
   case measure => simp [intOf]; omega
  have eu : ¬ (u : Int) = 0 := by omega
  have uu : ((u : Int) == 0) = false := by simpa using eu
  have TS : t.size ≤ 2 := by omega
  have e9 := E9.out;have Y6 := hid (show Below (w5).heap.size (w5) ((w5).alloc (.cells #[.int .i64 (v : Int), .string t] 43)) from ext_alloc (Below.refl _ _) _);have OW := (D5.out.row.ext Y6.out).own
  have NEWS : ReadAt ((w5).alloc (.cells #[.int .i64 (v : Int), .string t] 43)) (some ⟨w5.heap.size, 0, none⟩) 1 1 2 [.int .i64 (v : Int), .string t] := ⟨rfl, fun e => by simp at e, fun x hx => by
   simp only [Option.some.injEq] at hx;subst hx
   exact ⟨rfl, blk_news (cs := [.int .i64 (v : Int), .string t]) (Blk.new' _ _ (by simp))⟩⟩
  go_wp2_with (first
   | ((with_reducible refine wpList_appS w.heap.size a1 nl c1 (flat l) (some ⟨w5.heap.size, 0, none⟩) 1 1 [.int .i64 (v : Int), .string t] ?_ ?_ ?_ ?_ ?_ ?_ ?_ ?_); (· rfl); (· rfl); (· exact OW); (· exact NEWS); (· intro u hu; simp at hu; rcases hu with rfl | rfl <;> rfl); (· omega); (· exact D5.out.low2); (intro a2 c2 w7 q1 q2 q3))
   | ((with_reducible refine wpList_load_s2 (w3.heap.size) #[.int .i64 (v : Int), .string t] rfl ?_ ?_ ?_); (· rfl); (· exact kX)))
  have G := hid (D5.out.app Y6.out (s := ((v : Int), t)) q1 q2 ⟨by show (0 : Int) ≤ (v : Int); omega, by have := HM.out; show (v : Int) ≤ (1000 : Int); omega, TS⟩);clear OW NEWS q1 q2 q3 kX e9;go_roundw;case rel => exact ⟨mm - 1, _, nl + 1, a2, c2, _, by omega, by rw [show ((mm - 1 : Nat) : Int) = (mm : Int) - 1 by omega], rfl, by have := KB.out; omega, by have := LB.out; omega, G.out⟩
  case measure => simp [intOf]; omega
 have e3 : ¬ (0 : Int) < (mm : Int) := by omega
 have u3 : decide ((0 : Int) < (mm : Int)) = false := decide_eq_false e3;go_wp2_with fail;go_ret;exact ⟨l, nl, a1, c1, rfl, p1, D.out, by have := LB.out; omega, by have := KB.out; omega⟩
end Go.Proofs.Ytjdceoimignnpaa
