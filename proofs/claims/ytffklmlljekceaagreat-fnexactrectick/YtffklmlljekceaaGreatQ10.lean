import Derived.Test.YtffklmlljekceaaGreatQ06
import Derived.Test.YtffklmlljekceaaGreatQ08
import Derived.Test.YtffklmlljekceaaGreatQ09
import Derived.Laws.BytesArg
namespace Go.Proofs.YtffklmlljekceaaGreat
open Go.ChangeShapes Go.WideShapes Go.ChangeAt Go.RowKit Go.Deep Go.Joins
set_option linter.unusedSimpArgs false
set_option linter.unusedVariables false
set_option maxHeartbeats 4000000
set_option maxRecDepth 20000
def roleB (r : Rc) : Bool := if r.lead then leadB r else if r.tr then tryB r else calmB r
def validB (r : Rc) : Bool := (inB r.of_ 1 5 && inB r.num 1 r.of_) && diskOkB r.sp r.sk r.ss && diskOkB r.dp r.dk r.ds && heldOkB r.num r.of_ r.held && wishesOkB r.wish && inB r.heard 0 1000000 && numsOkB r.of_ r.yes && slotsOkB r.best && acksOkB r.of_ r.acks && (!(r.lead && r.tr)) && roleB r && (r.up || downB r)
theorem nv_g0 {r : Rc} (h : (inB r.of_ 1 5 && inB r.num 1 r.of_) = false) : validB r = false := by
 unfold validB
 rw [h]
 simp only [Bool.false_and, Bool.and_false]
theorem nv_g1 {r : Rc} (h : diskOkB r.sp r.sk r.ss = false) : validB r = false := by
 unfold validB
 rw [h]
 simp only [Bool.false_and, Bool.and_false]
theorem nv_g2 {r : Rc} (h : diskOkB r.dp r.dk r.ds = false) : validB r = false := by
 unfold validB
 rw [h]
 simp only [Bool.false_and, Bool.and_false]
theorem nv_g3 {r : Rc} (h : heldOkB r.num r.of_ r.held = false) : validB r = false := by
 unfold validB
 rw [h]
 simp only [Bool.false_and, Bool.and_false]
theorem nv_g4 {r : Rc} (h : wishesOkB r.wish = false) : validB r = false := by
 unfold validB
 rw [h]
 simp only [Bool.false_and, Bool.and_false]
theorem nv_g5 {r : Rc} (h : inB r.heard 0 1000000 = false) : validB r = false := by
 unfold validB
 rw [h]
 simp only [Bool.false_and, Bool.and_false]
theorem nv_g6 {r : Rc} (h : numsOkB r.of_ r.yes = false) : validB r = false := by
 unfold validB
 rw [h]
 simp only [Bool.false_and, Bool.and_false]
theorem nv_g7 {r : Rc} (h : slotsOkB r.best = false) : validB r = false := by
 unfold validB
 rw [h]
 simp only [Bool.false_and, Bool.and_false]
theorem nv_g8 {r : Rc} (h : acksOkB r.of_ r.acks = false) : validB r = false := by
 unfold validB
 rw [h]
 simp only [Bool.false_and, Bool.and_false]
theorem nv_g9 {r : Rc} (h : (!(r.lead && r.tr)) = false) : validB r = false := by
 unfold validB
 rw [h]
 simp only [Bool.false_and, Bool.and_false]
theorem nv_g10 {r : Rc} (h : roleB r = false) : validB r = false := by
 unfold validB
 rw [h]
 simp only [Bool.false_and, Bool.and_false]
theorem valid_last {r : Rc} (hg0 : (inB r.of_ 1 5 && inB r.num 1 r.of_) = true) (hg1 : diskOkB r.sp r.sk r.ss = true) (hg2 : diskOkB r.dp r.dk r.ds = true) (hg3 : heldOkB r.num r.of_ r.held = true) (hg4 : wishesOkB r.wish = true) (hg5 : inB r.heard 0 1000000 = true) (hg6 : numsOkB r.of_ r.yes = true) (hg7 : slotsOkB r.best = true) (hg8 : acksOkB r.of_ r.acks = true) (hg9 : (!(r.lead && r.tr)) = true) (hg10 : roleB r = true) : validB r = (r.up || downB r) := by
 unfold validB
 rw [hg0, hg1, hg2, hg3, hg4, hg5, hg6, hg7, hg8, hg9, hg10]
 simp only [Bool.true_and]
theorem below_eq {w w' : World} (h : w' = w) : Below w.heap.size w w' := h ▸ Below.refl _ _
theorem wpList_load_rec_g {ops : Array Oper} {rest : List Oper} {dst : Option Tmp} {x : Operand} {τ : TypeId} {pos : String} {after : Array Edge} {gd : Option (Nat × Bool)} {a : Act} {w : World} {Q : Exit → Act → World → Prop}
  (g : Nat) (cs : Array Value) (hs : cs.size = 18) (hw : Region.wanted { dst := dst, op := .load 41 x, type := τ, pos := pos, after := after, guard := gd } (yielded ops a.tmps) = true) (hx : a.eval x = .pointer (some ⟨g, 0, none⟩)) (hg : Blk w g cs 41)
  (h : wpList Tryz.prog ops Q rest (a.put dst (.agg cs)) w) :
  wpList Tryz.prog ops Q ({ dst := dst, op := .load 41 x, type := τ, pos := pos, after := after, guard := gd } :: rest) a w :=
 wpList_step fun K hK => by
  rw [if_pos hw]
  exact wp_load_row 41 x rfl g hx 41 cs (0, 0) _ hg Tryz.underlying41 rfl (by rw [hs]; kernel_rfl) (hK _ _ h)
theorem within_b (a b c : Int) (w : World) : Calls Tryz.prog 89 #[.int .i64 a, .int .i64 b, .int .i64 c] w fun e w' => e = .returned (.bool (inB a b c)) ∧ Below w.heap.size w w' :=
 (within_any a b c w).mono fun e w' ⟨h1, h2⟩ => ⟨h1, below_eq h2⟩
theorem recorderIs_b (n o : Int) (w : World) : Calls Tryz.prog 85 #[.int .i64 n, .int .i64 o] w fun e w' => e = .returned (.bool (inB o 1 5 && inB n 1 o)) ∧ Below w.heap.size w w' :=
 (atNil.recorderIs_any n o w).mono fun e w' ⟨h1, h2⟩ => ⟨h1, below_eq h2⟩
theorem implNumbers_b (a : Option Addr) (l : List Int) (n cap : Nat) (of_ : Int) (w : World) (hn : l.length = n) (hc : n ≤ maxLen) (hof : of_ ≤ 1000000) (h : IntsAt w a l) :
  Calls Tryz.prog 90 #[.slice a n cap, .int .i64 of_] w fun e w' => e = .returned (.bool (numsOkB of_ l)) ∧ Below w.heap.size w w' :=
 (implNumbers a l n cap of_ w hn hc hof h).mono fun e w' ⟨h1, h2⟩ => ⟨h1, below_eq h2⟩
def nth : List Oper → Nat → Option Oper
 | [], _ => none
 | a :: _, 0 => some a
 | _ :: l, n + 1 => nth l n
theorem nth_eq : ∀ (l : List Oper) (i : Nat), nth l i = l[i]?
 | [], _ => by simp [nth]
 | a :: l, 0 => by simp [nth]
 | a :: l, n + 1 => by simp [nth, nth_eq l n]
theorem at_lit {l : List Oper} {i : Nat} {o : Oper} (h : nth l i = some o) : l.toArray[i]? = some o := by rw [List.getElem?_toArray, ← nth_eq, h]
structure RecS (B : World) (g : Nat) (r : Rc) (p : RcP) (w' : World) : Prop where
 blk : Blk w' g (rcV r p) 41
 bel : Below B.heap.size B w'
theorem RecS.ext {B : World} {g : Nat} {r : Rc} {p : RcP} {w' v' : World} (h : RecS B g r p w') (hb : Below w'.heap.size w' v') : RecS B g r p v' := ⟨h.blk.ext hb, ext_trans h.bel hb⟩
theorem RecS.drew {B : World} {g : Nat} {r : Rc} {p : RcP} {w' : World} (h : RecS B g r p w') : RecS B g r p w'.drew := ⟨h.blk, h.bel.drew⟩
theorem yields_rec {ops : Array Oper} {o : Oper} {a : Act} {B : World} {g : Nat} {r : Rc} {p : RcP} (hw : Region.wanted o (yielded ops a.tmps) = true) (x : Operand) (ho : o.op = .load 41 x) (hx : a.eval x = .pointer (some ⟨g, 0, none⟩)) :
  YieldsIf Tryz.prog ops (RecS B g r p) o (.agg (rcV r p)) a :=
 .inl ⟨hw, fun w hS => by
  unfold execOp
  simp only [ho, hx, Instr.loadAt, Instr.sureAddr, Sem.run_bind, Sem.run_pure, Result.andThen_ok, run_loadVar_row w g 41 41 (rcV r p) (0, 0) _ hS.blk Tryz.underlying41 rfl (by kernel_rfl)]⟩
end Go.Proofs.YtffklmlljekceaaGreat
namespace Go.Proofs.YtffklmlljekceaaGreat
open Go.ChangeShapes Go.WideShapes Go.ChangeAt Go.RowKit
set_option linter.unusedSimpArgs false
set_option linter.unusedVariables false
set_option maxHeartbeats 4000000
set_option maxRecDepth 20000
def dig (j : Nat) : ByteArray := strOfNums [48 + (j : Int) % 10]
theorem dig_size (j : Nat) : (dig j).size = 1 := rfl
def mtF : Nat → Nat → ByteArray → ByteArray
 | 0, _, o => o
 | f + 1, k, o => if k = 0 then o else mtF f (k / 10) (dig k ++ o)
theorem mtF_more : ∀ (f g k : Nat) (o : ByteArray), k < f → k < g → mtF f k o = mtF g k o
 | 0, _, _, _, h, _ => absurd h (by omega)
 | _ + 1, 0, _, _, _, h => absurd h (by omega)
 | f + 1, g + 1, k, o, h1, h2 => by
  unfold mtF
  split
  ·rfl
  exact mtF_more f g (k / 10) _ (by omega) (by omega)
def mtL (k : Nat) (o : ByteArray) : ByteArray := mtF (k + 1) k o
theorem mtL_zero (o : ByteArray) : mtL 0 o = o := by simp [mtL, mtF]
theorem mtL_step {k : Nat} (h : 0 < k) (o : ByteArray) : mtL k o = mtL (k / 10) (dig k ++ o) := by
 have e : mtL k o = mtF k (k / 10) (dig k ++ o) := by
  unfold mtL
  conv => lhs; unfold mtF
  rw [if_neg (by omega)]
 rw [e]
 exact mtF_more _ _ _ _ (by omega) (by omega)
def markT (k : Nat) : ByteArray := if k = 0 then ⟨#[109, 48]⟩ else ⟨#[109]⟩ ++ mtL k ⟨#[]⟩
theorem div10 {j : Nat} (h : 0 < j) : ((j : Int) / 10).toNat < (j : Int).toNat := by omega
theorem div10_cast (j : Nat) : (j : Int) / 10 = ((j / 10 : Nat) : Int) := by omega
theorem markText_any (k : Nat) (w : World) (hk : k ≤ 1152921504606846976) :
  Calls Tryz.prog 67 #[.int .i64 k] w fun e w' => e = .returned (.string (markT k)) ∧ Below w.heap.size w w' := by
 by_cases h0 : k = 0
 ·go_enter Tryz.func67, Tryz.ntmps67
  go_wp2
  go_ret
  exact ⟨by simp [markT, h0], Below.refl _ _⟩
 have HT := hid (show markT k = ⟨#[109]⟩ ++ mtL k ⟨#[]⟩ by unfold markT; rw [if_neg h0])
 go_enter Tryz.func67, Tryz.ntmps67
 go_wp2
 go_loopw [0, 3] (fun kv ov wr => ∃ (j : Nat) (o : ByteArray), kv = .int .i64 j ∧ ov = .string o ∧ mtL j o = mtL k ⟨#[]⟩ ∧ o.size + j ≤ 1152921504606846976 ∧ Below w.heap.size w wr) (fun kv _ _ => (intOf kv).toNat)
 case atStart => exact ⟨k, ⟨#[]⟩, rfl, rfl, rfl, by show 0 + k ≤ 1152921504606846976; omega, Below.refl _ _⟩
 obtain ⟨j, o, rfl, rfl, heq0, hj, hbel⟩ := hrel
 have heq := hid heq0
 clear heq0
 by_cases hjz : 0 < j
 ·have e1 : (0 : Int) < (j : Int) := by omega
  have e2 : (o.size : Int) ≤ 1152921504606846976 := by omega
  have e3 : o.size ≤ 1152921504606846976 := by omega
  have hwr : wrap64 ((j : Int) / 10) = (j : Int) / 10 := by go_arith
  have HJ := hid hj
  have HBe := hid hbel
  clear hj hbel
  obtain ⟨D, hD0, dsz⟩ : ∃ D, D = dig j ∧ D.size = 1 := ⟨_, rfl, dig_size j⟩
  have hD := hid hD0
  have kc : (convert 132 9 (.slice (some ⟨wr.heap.size, 0, none⟩) 1 1)).run Tryz.prog (wr.alloc (.cells #[.int .u8 (48 + (j : Int) % 10)] 5)) = .ok (.string D) (wr.alloc (.cells #[.int .u8 (48 + (j : Int) % 10)] 5)) := by
   rw [hD0]
   exact run_convert_bytes_arg _ 132 5 Tryz.underlying132 Tryz.underlying5 wr.heap.size 0 1 1 [48 + (j : Int) % 10] rfl (fun i hi => by
    have : i = 0 := by omega
    subst this
    exact (Blk.new wr #[.int .u8 (48 + (j : Int) % 10)] 5).cell 0) 9 Tryz.underlying9
  clear hD0
  go_wp2
  rw [hwr]
  go_roundw
  case rel =>
   have h9 := HJ.out
   refine ⟨j / 10, D ++ o, by rw [div10_cast], rfl, by rw [hD.out, ← mtL_step hjz]; exact heq.out, ?_, ext_alloc HBe.out _⟩
   rw [ByteArray.size_append, dsz]
   omega
  case measure =>
   exact div10 hjz
 have e1 : j = 0 := by omega
 subst e1
 have e3 : o.size ≤ 1152921504606846976 := by omega
 go_wp2
 go_ret
 have h9 := heq.out
 rw [mtL_zero] at h9
 exact ⟨by rw [HT.out, ← h9]; rfl, hbel⟩
theorem markText_int (K : Int) (k : Nat) (w : World) (hK : K = (k : Int)) (hk : k ≤ 1152921504606846976) :
  Calls Tryz.prog 67 #[.int .i64 K] w fun e w' => e = .returned (.string (markT k)) ∧ Below w.heap.size w w' := by subst hK; exact markText_any k w hk
abbrev Ws := List (Addr × Value)
structure Wrote (w w' : World) (ws : Ws) : Prop where
 os : w'.os = w.os
 tape : w'.tape = w.tape
 output : w'.output = w.output
 size : w.heap.size ≤ w'.heap.size
 block : ∀ k, k < w.heap.size → (∀ p ∈ ws, p.1.block ≠ k) → w'.heap[k]? = w.heap[k]?
 keep : ∀ a : Addr, a.block < w.heap.size → (∀ p ∈ ws, p.1 ≠ a) → w'.cell? a = w.cell? a
 new : ∀ p ∈ ws, w'.cell? p.1 = some p.2
 free : ∀ a : Addr, a.block < w.heap.size → w'.frozen? a = w.frozen? a
theorem Wrote.refl (w : World) : Wrote w w [] := ⟨rfl, rfl, rfl, Nat.le_refl _, fun _ _ _ => rfl, fun _ _ _ => rfl, fun p hp => by simp at hp, fun _ _ => rfl⟩
theorem Wrote.ext {w w1 w2 : World} {ws : Ws} (h : Wrote w w1 ws) (hin : ∀ p ∈ ws, p.1.block < w.heap.size) (hb : Below w1.heap.size w1 w2) : Wrote w w2 ws :=
 ⟨hb.os.trans h.os, hb.tape.trans h.tape, hb.output.trans h.output, Nat.le_trans h.size hb.size, fun k hk hn => (hb.block k (Nat.lt_of_lt_of_le hk h.size)).trans (h.block k hk hn),
  fun a ha hn => (hb.cell (p := a) (Nat.lt_of_lt_of_le ha h.size)).trans (h.keep a ha hn), fun p hp => (hb.cell (p := p.1) (Nat.lt_of_lt_of_le (hin p hp) h.size)).trans (h.new p hp),
  fun a ha => (World.frozen?_of_block (hb.block a.block (Nat.lt_of_lt_of_le ha h.size))).trans (h.free a ha)⟩
theorem Wrote.set {w w1 : World} {ws : Ws} (h : Wrote w w1 ws) (b o : Nat) (v : Value) (hnew : ∀ p ∈ ws, p.1 ≠ ⟨b, o, none⟩) (hs : (w1.cell? ⟨b, o, none⟩).isSome = true) :
  Wrote w (w1.setCell ⟨b, o, none⟩ v) (ws ++ [(⟨b, o, none⟩, v)]) := by
 refine ⟨h.os, h.tape, h.output, by simpa using h.size, fun k hk hn => ?_, fun a ha hn => ?_, fun p hp => ?_, fun a ha => ?_⟩
 ·have h1 := hn (⟨b, o, none⟩, v) (by simp)
  exact (heap_setCell_other w1 ⟨b, o, none⟩ k v (fun e => h1 e.symm)).trans (h.block k hk (fun p hp => hn p (by simp [hp])))
 ·have h1 := hn (⟨b, o, none⟩, v) (by simp)
  exact (World.cell?_setCell_other w1 ⟨b, o, none⟩ a v h1).trans (h.keep a ha (fun p hp => hn p (by simp [hp])))
 ·simp only [List.mem_append, List.mem_singleton] at hp
  rcases hp with hp | rfl
  ·rw [World.cell?_setCell_other w1 ⟨b, o, none⟩ p.1 v (fun e => hnew p hp e.symm)]
   exact h.new p hp
  exact World.cell?_setCell_same' w1 ⟨b, o, none⟩ v hs
 rw [World.frozen?_setCell]
 exact h.free a ha
theorem Wrote.trans {w w1 w2 : World} {ws1 ws2 : Ws} (h : Wrote w w1 ws1) (k : Wrote w1 w2 ws2) (hin : ∀ p ∈ ws1, p.1.block < w.heap.size) (hd : ∀ p ∈ ws1, ∀ q ∈ ws2, q.1 ≠ p.1) : Wrote w w2 (ws1 ++ ws2) :=
 ⟨k.os.trans h.os, k.tape.trans h.tape, k.output.trans h.output, Nat.le_trans h.size k.size,
  fun i hi hn => (k.block i (Nat.lt_of_lt_of_le hi h.size) (fun p hp => hn p (by simp [hp]))).trans (h.block i hi (fun p hp => hn p (by simp [hp]))),
  fun a ha hn => (k.keep a (Nat.lt_of_lt_of_le ha h.size) (fun p hp => hn p (by simp [hp]))).trans (h.keep a ha (fun p hp => hn p (by simp [hp]))),
  fun p hp => by
   simp only [List.mem_append] at hp
   rcases hp with hp | hp
   ·rw [k.keep p.1 (Nat.lt_of_lt_of_le (hin p hp) h.size) (fun q hq => hd p hp q hq)]; exact h.new p hp
   exact k.new p hp,
  fun a ha => (k.free a (Nat.lt_of_lt_of_le ha h.size)).trans (h.free a ha)⟩
def adr (a : Option Addr) (j : Nat) : Addr := match a with | some x => ⟨x.block, x.off + j, none⟩ | none => ⟨0, 0, none⟩
theorem adr_some (b o j : Nat) : adr (some ⟨b, o, none⟩) j = ⟨b, o + j, none⟩ := rfl
def Room (w : World) (a : Option Addr) (m : Nat) : Prop :=
 ∀ j, j < m → ∃ b off, a = some ⟨b, off, none⟩ ∧ b < w.heap.size ∧ (w.cell? ⟨b, off + j, none⟩).isSome = true ∧ w.frozen? ⟨b, off + j, none⟩ = false
def wsS (a : Option Addr) (k : Nat) : Nat → Ws
 | 0 => []
 | n + 1 => wsS a k n ++ [(adr a (n * 2), .int .i64 ((k + 2 * n : Nat) : Int)), (adr a (n * 2 + 1), .string (markT (k + 2 * n + 1)))]
def wsI (a : Option Addr) (k : Nat) : Nat → Ws
 | 0 => []
 | n + 1 => wsI a k n ++ [(adr a n, .int .i64 ((k + n : Nat) : Int))]
def wsT (a : Option Addr) (k : Nat) : Nat → Ws
 | 0 => []
 | n + 1 => wsT a k n ++ [(adr a n, .string (markT (k + n)))]
theorem wsS_mem : ∀ (a : Option Addr) (k n : Nat) (p : Addr × Value), p ∈ wsS a k n → ∃ j, j < n * 2 ∧ p.1 = adr a j
 | a, k, 0, p, h => by simp [wsS] at h
 | a, k, n + 1, p, h => by
  simp only [wsS, List.mem_append, List.mem_cons, List.not_mem_nil, or_false] at h
  rcases h with h | rfl | rfl
  ·obtain ⟨j, hj, e⟩ := wsS_mem a k n p h
   exact ⟨j, by omega, e⟩
  ·exact ⟨n * 2, by omega, rfl⟩
  exact ⟨n * 2 + 1, by omega, rfl⟩
theorem wsI_mem : ∀ (a : Option Addr) (k n : Nat) (p : Addr × Value), p ∈ wsI a k n → ∃ j, j < n ∧ p.1 = adr a j
 | a, k, 0, p, h => by simp [wsI] at h
 | a, k, n + 1, p, h => by
  simp only [wsI, List.mem_append, List.mem_cons, List.not_mem_nil, or_false] at h
  rcases h with h | rfl
  ·obtain ⟨j, hj, e⟩ := wsI_mem a k n p h
   exact ⟨j, by omega, e⟩
  exact ⟨n, by omega, rfl⟩
theorem wsT_mem : ∀ (a : Option Addr) (k n : Nat) (p : Addr × Value), p ∈ wsT a k n → ∃ j, j < n ∧ p.1 = adr a j
 | a, k, 0, p, h => by simp [wsT] at h
 | a, k, n + 1, p, h => by
  simp only [wsT, List.mem_append, List.mem_cons, List.not_mem_nil, or_false] at h
  rcases h with h | rfl
  ·obtain ⟨j, hj, e⟩ := wsT_mem a k n p h
   exact ⟨j, by omega, e⟩
  exact ⟨n, by omega, rfl⟩
theorem adr_ne {b off i j : Nat} (h : i ≠ j) : adr (some ⟨b, off, none⟩) i ≠ (⟨b, off + j, none⟩ : Addr) := fun e => by
 rw [adr_some] at e
 simp only [Addr.mk.injEq, true_and, and_true] at e
 omega
theorem all_snoc {ws : Ws} {x : Addr × Value} {P : Addr × Value → Prop} (h1 : ∀ p ∈ ws, P p) (h2 : P x) : ∀ p ∈ ws ++ [x], P p := fun p hp => by
 simp only [List.mem_append, List.mem_singleton] at hp
 rcases hp with hp | rfl
 ·exact h1 p hp
 exact h2
theorem some_of_isSome {α : Type} {o : Option α} (h : o.isSome = true) : ∃ x, o = some x := Option.isSome_iff_exists.1 h
theorem markS_any (a : Option Addr) (n cap k : Nat) (w : World) (hk : k + 2 * n ≤ 1152921504606846900) (h : Room w a (n * 2)) :
  Calls Tryz.prog 50 #[.slice a n cap, .int .i64 k] w fun e w' => e = .returned (.int .i64 ((k + 2 * n : Nat) : Int)) ∧ Wrote w w' (wsS a k n) := by
 have H := hid h
 clear h
 go_enter Tryz.func50, Tryz.ntmps50
 go_wp2
 go_loopw [1, 5] (fun kv i wr => ∃ (j : Nat) (K : Int), j ≤ n ∧ i = .int .i64 j ∧ kv = .int .i64 K ∧ K = ((k + 2 * j : Nat) : Int) ∧ Wrote w wr (wsS a k j)) (fun _ i _ => n - (intOf i).toNat)
 case atStart => exact ⟨0, k, Nat.zero_le _, rfl, rfl, rfl, Wrote.refl _⟩
 obtain ⟨j, K, hj, rfl, rfl, hK0, ho0⟩ := hrel
 have HO := hid ho0
 have HK := hid hK0
 have HKN := hid hk
 have K1 : (0 : Int) ≤ K := by omega
 have K2 : K ≤ 1152921504606846976 := by omega
 have hnb : n ≤ 1152921504606846976 := by omega
 clear ho0 hK0 hk
 by_cases hlt : j < n
 ·have e1 : (0 : Int) ≤ (j : Int) := by omega
  have e2 : (j : Int) < (n : Int) := by omega
  obtain ⟨b, off, rfl, hb, s0, f0⟩ := H.out (j * 2) (by omega)
  obtain ⟨b', off', ee, _, s1, f1⟩ := H.out (j * 2 + 1) (by omega)
  simp only [Option.some.injEq, Addr.mk.injEq, and_true] at ee
  obtain ⟨rfl, rfl⟩ := ee
  have N0 := hid (show ∀ p ∈ wsS (some ⟨b, off, none⟩) k j, p.1 ≠ ⟨b, off + j * 2, none⟩ from fun p hp => by obtain ⟨q, hq, e⟩ := wsS_mem _ _ _ p hp; rw [e]; exact adr_ne (by omega))
  have N1 := hid (show ∀ p ∈ wsS (some ⟨b, off, none⟩) k j, p.1 ≠ ⟨b, off + (j * 2 + 1), none⟩ from fun p hp => by obtain ⟨q, hq, e⟩ := wsS_mem _ _ _ p hp; rw [e]; exact adr_ne (by omega))
  have IN := hid (show ∀ p ∈ wsS (some ⟨b, off, none⟩) k j, p.1.block < w.heap.size from fun p hp => by obtain ⟨q, hq, e⟩ := wsS_mem _ _ _ p hp; rw [e]; exact hb)
  obtain ⟨x0, hx0⟩ := some_of_isSome s0
  obtain ⟨x1, hx1⟩ := some_of_isSome s1
  have d0 := (HO.out.keep ⟨b, off + j * 2, none⟩ hb N0.out).trans hx0
  have ff0 := (HO.out.free ⟨b, off + j * 2, none⟩ hb).trans f0
  have W1 := hid (HO.out.set b (off + j * 2) (.int .i64 K) N0.out (by rw [d0]; rfl))
  have HB := hid hb
  have F1 := hid f1
  have X1 := hid hx1
  clear hx0 hx1 s0 s1 f0 f1
  go_wp2_with fail
  refine (markText_int (K + 1) (k + 2 * j + 1) _ (by rw [HK.out]; omega) (by have := HKN.out; omega)).mono ?_
  rintro e z ⟨rfl, hz⟩
  have W2 := hid (W1.out.ext (all_snoc IN.out HB.out) hz)
  have N2 := hid (show ∀ p ∈ wsS (some ⟨b, off, none⟩) k j ++ [((⟨b, off + j * 2, none⟩ : Addr), Value.int .i64 K)], p.1 ≠ ⟨b, off + j * 2 + 1, none⟩ from fun p hp => by
   simp only [List.mem_append, List.mem_singleton] at hp
   rcases hp with hp | rfl
   ·exact N1.out p hp
   simp)
  have d2 := (W2.out.keep ⟨b, off + j * 2 + 1, none⟩ HB.out N2.out).trans X1.out
  have f2 := (W2.out.free ⟨b, off + j * 2 + 1, none⟩ HB.out).trans F1.out
  have W3 := hid (W2.out.set b (off + j * 2 + 1) (.string (markT (k + 2 * j + 1))) N2.out (by rw [d2]; rfl))
  clear d0 ff0 hz W1 W2
  go_wp2
  go_roundw
  case rel =>
   refine ⟨j + 1, K + 1 + 1, by omega, by go_num, rfl, by rw [HK.out]; omega, ?_⟩
   have h9 := W3.out
   rw [List.append_assoc, HK.out] at h9
   exact h9
  case measure => simp [intOf]; omega
 have hjn : j = n := by omega
 subst hjn
 go_wp2
 go_ret
 exact ⟨by rw [HK.out]; rfl, HO.out⟩
theorem wsS_at : ∀ (a : Option Addr) (k n j : Nat), j < n → (adr a (j * 2), Value.int .i64 ((k + 2 * j : Nat) : Int)) ∈ wsS a k n ∧ (adr a (j * 2 + 1), Value.string (markT (k + 2 * j + 1))) ∈ wsS a k n
 | a, k, 0, j, h => absurd h (by omega)
 | a, k, n + 1, j, h => by
  by_cases e : j = n
  ·subst e; simp [wsS]
  have := wsS_at a k n j (by omega)
  exact ⟨by simp only [wsS, List.mem_append]; exact .inl this.1, by simp only [wsS, List.mem_append]; exact .inl this.2⟩
theorem Room.wrote {w w' : World} {a : Option Addr} {m : Nat} {ws : Ws} (h : Room w a m) (k : Wrote w w' ws) : Room w' a m := fun j hj => by
 obtain ⟨b, off, ha, hb, hs, hf⟩ := h j hj
 refine ⟨b, off, ha, Nat.lt_of_lt_of_le hb k.size, ?_, (k.free _ hb).trans hf⟩
 by_cases hp : ∃ p ∈ ws, p.1 = ⟨b, off + j, none⟩
 ·obtain ⟨p, hp, e⟩ := hp
  rw [← e, k.new p hp]; rfl
 rw [k.keep _ hb (fun p hp' e => hp ⟨p, hp', e⟩)]; exact hs
theorem Room.ext {w w' : World} {a : Option Addr} {m : Nat} (h : Room w a m) (k : Below w.heap.size w w') : Room w' a m := fun j hj => by
 obtain ⟨b, off, ha, hb, hs, hf⟩ := h j hj
 exact ⟨b, off, ha, Nat.lt_of_lt_of_le hb k.size, by rw [k.cell (p := ⟨b, off + j, none⟩) hb]; exact hs, (World.frozen?_of_block (k.block b hb)).trans hf⟩
theorem heldS_any (a : Option Addr) (n cap k : Nat) (w : World) (hk : k + 2 * n ≤ 1152921504606846900) (h : Room w a (n * 2)) (hv : ∀ p ∈ wsS a k n, w.cell? p.1 = some p.2) :
  Calls Tryz.prog 55 #[.slice a n cap, .int .i64 k] w fun e w' => e = .returned (.int .i64 ((k + 2 * n : Nat) : Int)) ∧ Below w.heap.size w w' := by
 have H := hid h
 have HV := hid hv
 clear h hv
 go_enter Tryz.func55, Tryz.ntmps55
 go_wp2
 go_loopw [1, 5] (fun kv i wr => ∃ (j : Nat) (K : Int), j ≤ n ∧ i = .int .i64 j ∧ kv = .int .i64 K ∧ K = ((k + 2 * j : Nat) : Int) ∧ Below w.heap.size w wr) (fun _ i _ => n - (intOf i).toNat)
 case atStart => exact ⟨0, k, Nat.zero_le _, rfl, rfl, rfl, Below.refl _ _⟩
 obtain ⟨j, K, hj, rfl, rfl, hK0, hb0⟩ := hrel
 have HK := hid hK0
 have HKN := hid hk
 have HBe := hid hb0
 have K1 : (0 : Int) ≤ K := by omega
 have K2 : K ≤ 1152921504606846976 := by omega
 have hnb : n ≤ 1152921504606846976 := by omega
 by_cases hlt : j < n
 ·have e1 : (0 : Int) ≤ (j : Int) := by omega
  have e2 : (j : Int) < (n : Int) := by omega
  obtain ⟨b, off, rfl, hb, s0, f0⟩ := H.out (j * 2) (by omega)
  have hm := wsS_at (some ⟨b, off, none⟩) k n j hlt
  have m0 := HV.out _ hm.1
  have m1 := HV.out _ hm.2
  rw [← hK0] at m0
  have d0 : wr.cell? ⟨b, off + j * 2, none⟩ = some (.int .i64 K) := (hb0.cell (p := ⟨b, off + j * 2, none⟩) hb).trans m0
  have d1 : wr.cell? ⟨b, off + j * 2 + 1, none⟩ = some (.string (markT (k + 2 * j + 1))) := (hb0.cell (p := ⟨b, off + j * 2 + 1, none⟩) hb).trans m1
  have LT := hid (show b < wr.heap.size from Nat.lt_of_lt_of_le hb hb0.size)
  have D1 := hid d1
  clear hK0 hk hm hb0 m0 m1 s0 f0
  go_wp2_with fail
  refine wp_region_held_drew (S := Below wr.heap.size wr) (by kernel_rfl) ((Below.refl _ _).drew) (fun hHeld => ?_)
  simp only [qz, Nat.reduceAdd]
  refine planH.go [0, 1, 2, 3] ?_
  iterate 4 (apply planH.take (at_lit rfl) (by kernel_rfl) (by rfl) (fun _ _ _ h => h) hHeld; (· intro w9 hSw; clear hSw; go_simp; try with_reducible rfl); try simp only [qq])
  refine planH.fin ?_
  refine planH.go [4] ?_
  iterate 1 (apply planH.take (at_lit rfl) (by kernel_rfl) (by rfl) (fun _ _ _ h => h) hHeld; (· intro w9 hSw; have q := (hSw.cell (p := ⟨b, off + j * 2 + 1, none⟩) LT.out).trans D1.out; clear hSw; go_simp; try with_reducible rfl); try simp only [qq])
  refine planH.fin ?_
  refine planH.go [5] ?_
  iterate 1 (apply planH.take (at_lit rfl) (by kernel_rfl) (by rfl) (fun _ _ _ h => h) hHeld; (· intro w9 hSw; clear hSw; go_simp; try with_reducible rfl); try simp only [qq])
  refine planH.fin ?_
  refine wpAnyH_ready (rs := [6]) (by kernel_rfl) (by simp) ?_
  refine AllReadyH.cons (at_lit rfl) (fun K' hK => ?_) AllReadyH.nil
  go_simp
  refine (markText_int (K + 1) (k + 2 * j + 1) _ (by rw [HK.out]; omega) (by have := HKN.out; omega)).mono ?_
  rintro e z ⟨rfl, hz⟩
  go_wp2_with fail
  refine hK.out _ _ (ext_trans hHeld hz) (fun hNew => ?_)
  clear hK K' hHeld hz
  have hHeld := hNew
  clear hNew
  try simp only [qq]
  refine planH.go [7] ?_
  iterate 1 (apply planH.take (at_lit rfl) (by kernel_rfl) (by rfl) (fun _ _ _ h => h) hHeld; (· intro w9 hSw; clear hSw; go_simp; try with_reducible rfl); try simp only [qq])
  refine planH.fin ?_
  refine wpAnyH_done (by kernel_rfl) ?_ _
  have HF := hid (ext_trans HBe.out hHeld)
  clear hHeld d0 d1
  go_wp2
  go_roundw
  case rel => exact ⟨j + 1, K + 1 + 1, by omega, by go_num, rfl, by rw [HK.out]; omega, HF.out⟩
  case measure => simp [intOf]; omega
 have hjn : j = n := by omega
 subst hjn
 clear hk hK0
 go_wp2
 go_ret
 exact ⟨by rw [HK.out]; rfl, hb0⟩
theorem wsI_at : ∀ (a : Option Addr) (k n j : Nat), j < n → (adr a j, Value.int .i64 ((k + j : Nat) : Int)) ∈ wsI a k n
 | a, k, 0, j, h => absurd h (by omega)
 | a, k, n + 1, j, h => by
  by_cases e : j = n
  ·subst e; simp [wsI]
  have := wsI_at a k n j (by omega)
  simp only [wsI, List.mem_append]; exact .inl this
theorem markI_any (a : Option Addr) (n cap k : Nat) (w : World) (hk : k + n ≤ 1152921504606846900) (h : Room w a n) :
  Calls Tryz.prog 49 #[.slice a n cap, .int .i64 k] w fun e w' => e = .returned (.int .i64 ((k + n : Nat) : Int)) ∧ Wrote w w' (wsI a k n) := by
 have H := hid h
 clear h
 go_enter Tryz.func49, Tryz.ntmps49
 go_wp2
 go_loopw [1, 5] (fun kv i wr => ∃ (j : Nat) (K : Int), j ≤ n ∧ i = .int .i64 j ∧ kv = .int .i64 K ∧ K = ((k + j : Nat) : Int) ∧ Wrote w wr (wsI a k j)) (fun _ i _ => n - (intOf i).toNat)
 case atStart => exact ⟨0, k, Nat.zero_le _, rfl, rfl, rfl, Wrote.refl _⟩
 obtain ⟨j, K, hj, rfl, rfl, hK0, ho0⟩ := hrel
 have HO := hid ho0
 have HK := hid hK0
 have HKN := hid hk
 have K1 : (0 : Int) ≤ K := by omega
 have K2 : K ≤ 1152921504606846976 := by omega
 have hnb : n ≤ 1152921504606846976 := by omega
 clear ho0 hK0 hk
 by_cases hlt : j < n
 ·have e1 : (0 : Int) ≤ (j : Int) := by omega
  have e2 : (j : Int) < (n : Int) := by omega
  obtain ⟨b, off, rfl, hb, s0, f0⟩ := H.out j (by omega)
  have N0 := hid (show ∀ p ∈ wsI (some ⟨b, off, none⟩) k j, p.1 ≠ ⟨b, off + j, none⟩ from fun p hp => by obtain ⟨q, hq, e⟩ := wsI_mem _ _ _ p hp; rw [e]; exact adr_ne (by omega))
  have IN := hid (show ∀ p ∈ wsI (some ⟨b, off, none⟩) k j, p.1.block < w.heap.size from fun p hp => by obtain ⟨q, hq, e⟩ := wsI_mem _ _ _ p hp; rw [e]; exact hb)
  obtain ⟨x0, hx0⟩ := some_of_isSome s0
  have HB := hid hb
  have d2 := (HO.out.keep ⟨b, off + j, none⟩ hb N0.out).trans hx0
  have f2 := (HO.out.free ⟨b, off + j, none⟩ hb).trans f0
  have W3 := hid (HO.out.set b (off + j) (.int .i64 K) N0.out (by rw [d2]; rfl))
  clear hx0 s0 f0
  go_wp2
  go_roundw
  case rel =>
   refine ⟨j + 1, K + 1, by omega, by go_num, rfl, by rw [HK.out]; omega, ?_⟩
   show Wrote w _ (wsI (some ⟨b, off, none⟩) k j ++ [(⟨b, off + j, none⟩, .int .i64 ((k + j : Nat) : Int))])
   rw [← HK.out]
   exact W3.out
  case measure => simp [intOf]; omega
 have hjn : j = n := by omega
 subst hjn
 go_wp2
 go_ret
 exact ⟨by rw [HK.out]; rfl, HO.out⟩
theorem heldI_any (a : Option Addr) (n cap k : Nat) (w : World) (hk : k + n ≤ 1152921504606846900) (h : Room w a n) (hv : ∀ p ∈ wsI a k n, w.cell? p.1 = some p.2) :
  Calls Tryz.prog 54 #[.slice a n cap, .int .i64 k] w fun e w' => e = .returned (.int .i64 ((k + n : Nat) : Int)) ∧ Below w.heap.size w w' := by
 have H := hid h
 have HV := hid hv
 clear h hv
 go_enter Tryz.func54, Tryz.ntmps54
 go_wp2
 go_loopw [1, 5] (fun kv i wr => ∃ (j : Nat) (K : Int), j ≤ n ∧ i = .int .i64 j ∧ kv = .int .i64 K ∧ K = ((k + j : Nat) : Int) ∧ Below w.heap.size w wr) (fun _ i _ => n - (intOf i).toNat)
 case atStart => exact ⟨0, k, Nat.zero_le _, rfl, rfl, rfl, Below.refl _ _⟩
 obtain ⟨j, K, hj, rfl, rfl, hK0, hb0⟩ := hrel
 have HK := hid hK0
 have HKN := hid hk
 have HBe := hid hb0
 have K1 : (0 : Int) ≤ K := by omega
 have K2 : K ≤ 1152921504606846976 := by omega
 have hnb : n ≤ 1152921504606846976 := by omega
 by_cases hlt : j < n
 ·have e1 : (0 : Int) ≤ (j : Int) := by omega
  have e2 : (j : Int) < (n : Int) := by omega
  obtain ⟨b, off, rfl, hb, s0, f0⟩ := H.out j (by omega)
  have m0 := HV.out _ (wsI_at (some ⟨b, off, none⟩) k n j hlt)
  rw [← hK0] at m0
  have d0 : wr.cell? ⟨b, off + j, none⟩ = some (.int .i64 K) := (hb0.cell (p := ⟨b, off + j, none⟩) hb).trans m0
  have LT := hid (show b < wr.heap.size from Nat.lt_of_lt_of_le hb hb0.size)
  have D0 := hid d0
  clear hK0 hk hb0 m0 s0 f0
  go_wp2
  go_roundw
  case rel => exact ⟨j + 1, K + 1, by omega, by go_num, rfl, by rw [HK.out]; omega, HBe.out⟩
  case measure => simp [intOf]; omega
 have hjn : j = n := by omega
 subst hjn
 clear hk hK0
 go_wp2
 go_ret
 exact ⟨by rw [HK.out]; rfl, hb0⟩
theorem wsT_at : ∀ (a : Option Addr) (k n j : Nat), j < n → (adr a j, Value.string (markT (k + j))) ∈ wsT a k n
 | a, k, 0, j, h => absurd h (by omega)
 | a, k, n + 1, j, h => by
  by_cases e : j = n
  ·subst e; simp [wsT]
  have := wsT_at a k n j (by omega)
  simp only [wsT, List.mem_append]; exact .inl this
theorem markT_any (a : Option Addr) (n cap k : Nat) (w : World) (hk : k + n ≤ 1152921504606846900) (h : Room w a n) :
  Calls Tryz.prog 48 #[.slice a n cap, .int .i64 k] w fun e w' => e = .returned (.int .i64 ((k + n : Nat) : Int)) ∧ Wrote w w' (wsT a k n) := by
 have H := hid h
 clear h
 go_enter Tryz.func48, Tryz.ntmps48
 go_wp2
 go_loopw [1, 5] (fun kv i wr => ∃ (j : Nat) (K : Int), j ≤ n ∧ i = .int .i64 j ∧ kv = .int .i64 K ∧ K = ((k + j : Nat) : Int) ∧ Wrote w wr (wsT a k j)) (fun _ i _ => n - (intOf i).toNat)
 case atStart => exact ⟨0, k, Nat.zero_le _, rfl, rfl, rfl, Wrote.refl _⟩
 obtain ⟨j, K, hj, rfl, rfl, hK0, ho0⟩ := hrel
 have HO := hid ho0
 have HK := hid hK0
 have HKN := hid hk
 have K1 : (0 : Int) ≤ K := by omega
 have K2 : K ≤ 1152921504606846976 := by omega
 have hnb : n ≤ 1152921504606846976 := by omega
 clear ho0 hK0 hk
 by_cases hlt : j < n
 ·have e1 : (0 : Int) ≤ (j : Int) := by omega
  have e2 : (j : Int) < (n : Int) := by omega
  obtain ⟨b, off, rfl, hb, s0, f0⟩ := H.out j (by omega)
  have N0 := hid (show ∀ p ∈ wsT (some ⟨b, off, none⟩) k j, p.1 ≠ ⟨b, off + j, none⟩ from fun p hp => by obtain ⟨q, hq, e⟩ := wsT_mem _ _ _ p hp; rw [e]; exact adr_ne (by omega))
  have IN := hid (show ∀ p ∈ wsT (some ⟨b, off, none⟩) k j, p.1.block < w.heap.size from fun p hp => by obtain ⟨q, hq, e⟩ := wsT_mem _ _ _ p hp; rw [e]; exact hb)
  obtain ⟨x0, hx0⟩ := some_of_isSome s0
  have HB := hid hb
  have X0 := hid hx0
  have F0 := hid f0
  clear hx0 s0 f0
  go_wp2_with fail
  refine (markText_int K (k + j) _ HK.out (by have := HKN.out; omega)).mono ?_
  rintro e z ⟨rfl, hz⟩
  have W2 := hid (HO.out.ext IN.out hz)
  have d2 := (W2.out.keep ⟨b, off + j, none⟩ HB.out N0.out).trans X0.out
  have f2 := (W2.out.free ⟨b, off + j, none⟩ HB.out).trans F0.out
  have W3 := hid (W2.out.set b (off + j) (.string (markT (k + j))) N0.out (by rw [d2]; rfl))
  clear hz W2
  go_wp2
  go_roundw
  case rel => exact ⟨j + 1, K + 1, by omega, by go_num, rfl, by rw [HK.out]; omega, W3.out⟩
  case measure => simp [intOf]; omega
 have hjn : j = n := by omega
 subst hjn
 go_wp2
 go_ret
 exact ⟨by rw [HK.out]; rfl, HO.out⟩
theorem heldT_any (a : Option Addr) (n cap k : Nat) (w : World) (hk : k + n ≤ 1152921504606846900) (h : Room w a n) (hv : ∀ p ∈ wsT a k n, w.cell? p.1 = some p.2) :
  Calls Tryz.prog 53 #[.slice a n cap, .int .i64 k] w fun e w' => e = .returned (.int .i64 ((k + n : Nat) : Int)) ∧ Below w.heap.size w w' := by
 have H := hid h
 have HV := hid hv
 clear h hv
 go_enter Tryz.func53, Tryz.ntmps53
 go_wp2
 go_loopw [1, 5] (fun kv i wr => ∃ (j : Nat) (K : Int), j ≤ n ∧ i = .int .i64 j ∧ kv = .int .i64 K ∧ K = ((k + j : Nat) : Int) ∧ Below w.heap.size w wr) (fun _ i _ => n - (intOf i).toNat)
 case atStart => exact ⟨0, k, Nat.zero_le _, rfl, rfl, rfl, Below.refl _ _⟩
 obtain ⟨j, K, hj, rfl, rfl, hK0, hb0⟩ := hrel
 have HK := hid hK0
 have HKN := hid hk
 have HBe := hid hb0
 have K1 : (0 : Int) ≤ K := by omega
 have K2 : K ≤ 1152921504606846976 := by omega
 have hnb : n ≤ 1152921504606846976 := by omega
 by_cases hlt : j < n
 ·have e1 : (0 : Int) ≤ (j : Int) := by omega
  have e2 : (j : Int) < (n : Int) := by omega
  obtain ⟨b, off, rfl, hb, s0, f0⟩ := H.out j (by omega)
  have m0 := HV.out _ (wsT_at (some ⟨b, off, none⟩) k n j hlt)
  have d0 : wr.cell? ⟨b, off + j, none⟩ = some (.string (markT (k + j))) := (hb0.cell (p := ⟨b, off + j, none⟩) hb).trans m0
  have LT := hid (show b < wr.heap.size from Nat.lt_of_lt_of_le hb hb0.size)
  have D0 := hid d0
  clear hK0 hk hb0 m0 s0 f0
  go_wp2_with fail
  refine wp_region_held_drew (S := Below wr.heap.size wr) (by kernel_rfl) ((Below.refl _ _).drew) (fun hHeld => ?_)
  simp only [qz, Nat.reduceAdd]
  refine planH.go [0, 1, 2] ?_
  iterate 3 (apply planH.take (at_lit rfl) (by kernel_rfl) (by rfl) (fun _ _ _ h => h) hHeld; (· intro w9 hSw; clear hSw; go_simp; try with_reducible rfl); try simp only [qq])
  refine planH.fin ?_
  refine planH.go [3] ?_
  iterate 1 (apply planH.take (at_lit rfl) (by kernel_rfl) (by rfl) (fun _ _ _ h => h) hHeld; (· intro w9 hSw; have q := (hSw.cell (p := ⟨b, off + j, none⟩) LT.out).trans D0.out; clear hSw; go_simp; try with_reducible rfl); try simp only [qq])
  refine planH.fin ?_
  refine planH.go [4] ?_
  iterate 1 (apply planH.take (at_lit rfl) (by kernel_rfl) (by rfl) (fun _ _ _ h => h) hHeld; (· intro w9 hSw; clear hSw; go_simp; try with_reducible rfl); try simp only [qq])
  refine planH.fin ?_
  refine wpAnyH_ready (rs := [5]) (by kernel_rfl) (by simp) ?_
  refine AllReadyH.cons (at_lit rfl) (fun K' hK => ?_) AllReadyH.nil
  go_simp
  refine (markText_int K (k + j) _ HK.out (by have := HKN.out; omega)).mono ?_
  rintro e z ⟨rfl, hz⟩
  go_wp2_with fail
  refine hK.out _ _ (ext_trans hHeld hz) (fun hNew => ?_)
  clear hK K' hHeld hz
  have hHeld := hNew
  clear hNew
  try simp only [qq]
  refine planH.go [6] ?_
  iterate 1 (apply planH.take (at_lit rfl) (by kernel_rfl) (by rfl) (fun _ _ _ h => h) hHeld; (· intro w9 hSw; clear hSw; go_simp; try with_reducible rfl); try simp only [qq])
  refine planH.fin ?_
  refine wpAnyH_done (by kernel_rfl) ?_ _
  have HF := hid (ext_trans HBe.out hHeld)
  clear hHeld d0
  go_wp2
  go_roundw
  case rel => exact ⟨j + 1, K + 1, by omega, by go_num, rfl, by rw [HK.out]; omega, HF.out⟩
  case measure => simp [intOf]; omega
 have hjn : j = n := by omega
 subst hjn
 clear hk hK0
 go_wp2
 go_ret
 exact ⟨by rw [HK.out]; rfl, hb0⟩
end Go.Proofs.YtffklmlljekceaaGreat
