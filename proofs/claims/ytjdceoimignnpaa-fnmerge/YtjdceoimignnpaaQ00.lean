import Derived.Test.YtjdceoimignnpaaRows
import Derived.WalkKit
import Derived.ProofKit
import Derived.OpenShut
import Derived.ShutString
import Derived.ChangeOld
import Derived.Below
import Derived.Deep.QuietTactic
import Derived.BigQuiet
import Derived.Deep.RegionHeld
import Derived.Deep.WholeRow
import Derived.Deep.MidRow
import Derived.Laws.Tables
namespace Go.Proofs.Ytjdceoimignnpaa
open Go.ChangeShapes Go.WideShapes Go.ChangeAt Go.RowKit Go
set_option linter.unusedVariables false
set_option linter.unusedSimpArgs false
set_option maxHeartbeats 400000
variable {a : Act} {L : Array Bool} {c : Array Value} {high low n : Int} {rs : List Nat} {b f i : Nat} {o : Oper} {t : TypeId} {v : Value} {w w' : World}
theorem own : ownKnob Try.prog.godebug = none := by kernel_rfl
theorem laidOut : laidOutB Try.prog = true := by kernel_rfl
/-- low ≤ n ≤ high -/
def inB (n low high : Int) : Bool := decide (low ≤ n) && decide (n ≤ high)
theorem inB_yes (h1 : low ≤ n) (h2 : n ≤ high) : inB n low high = true := by simp [inB, h1, h2]
theorem inB_low (h1 : ¬ low ≤ n) : inB n low high = false := by simp [inB, h1]
theorem inB_high (h2 : ¬ n ≤ high) : inB n low high = false := by simp [inB, h2]
theorem inB_iff : inB n low high = true ↔ low ≤ n ∧ n ≤ high := by simp [inB]
set_option maxHeartbeats 400000 in
theorem l1In_any (n low high : Int) (w : World) :
  Calls Try.prog 37 #[.int .i64 n, .int .i64 low, .int .i64 high] w fun e w' => e = .returned (.bool (inB n low high)) ∧ w' = w := by
 by_cases h1 : low ≤ n
 ·by_cases h2 : n ≤ high
  ·rw [inB_yes h1 h2];go_enter Try.func37, Try.ntmps37;go_wp2;go_ret;exact ⟨rfl, rfl⟩
  ·rw [inB_high h2];go_enter Try.func37, Try.ntmps37;go_wp2;go_ret;exact ⟨rfl, rfl⟩
 ·rw [inB_low h1];go_enter Try.func37, Try.ntmps37;go_wp2;go_ret;exact ⟨rfl, rfl⟩
set_option maxHeartbeats 400000 in
theorem within_any (n low high : Int) (w : World) :
  Calls Try.prog 46 #[.int .i64 n, .int .i64 low, .int .i64 high] w fun e w' => e = .returned (.bool (inB n low high)) ∧ w' = w := by
 by_cases h1 : low ≤ n
 ·by_cases h2 : n ≤ high
  ·rw [inB_yes h1 h2];go_enter Try.func46, Try.ntmps46;go_wp2;go_ret;exact ⟨rfl, rfl⟩
  ·rw [inB_high h2];go_enter Try.func46, Try.ntmps46;go_wp2;go_ret;exact ⟨rfl, rfl⟩
 ·rw [inB_low h1];go_enter Try.func46, Try.ntmps46;go_wp2;go_ret;exact ⟨rfl, rfl⟩
abbrev zRc : Array Value := #[.int .i64 0, .int .i64 0, .bool false, .int .i64 0, .int .i64 0, .slice none 0 0, .int .i64 0, .int .i64 0, .slice none 0 0, .slice none 0 0, .slice none 0 0, .bool false, .bool false, .int .i64 0, .slice none 0 0, .slice none 0 0, .slice none 0 0, .int .i64 0]
section
variable {P : Program} {ops : Array Oper} {Q : Exit → Act → World → Prop} {md : Region.Mode} {S : World → Prop} {z : Nat}
/-- number z waits for number i -/
def waitsFor (md : Region.Mode) (ops : Array Oper) (z i : Nat) : Bool :=
 match ops[z]? with
 | some o => o.after.any fun e => Region.binds md e && (e.on == i)
 | none => false
/-- whatever order is picked; S holds behind every operation but number z -/
def wpLast (P : Program) (md : Region.Mode) (ops : Array Oper) (Q : Exit → Act → World → Prop) (S : World → Prop) (z : Nat) : Nat → Array Bool → Act → World → Prop
 | 0, L, a, w => Region.ready md ops L = [] ∧ Q .normal a w
 | f + 1, L, a, w => (Region.ready md ops L = [] → Q .normal a w) ∧ ∀ i ∈ Region.ready md ops L, wpOp P ops Q i (fun a' w' => (i ≠ z → S w') ∧ wpLast P md ops Q S z f (L.setIfInBounds i true) a' w') a w
theorem wpLast.any : ∀ (f : Nat) (L : Array Bool) (a : Act) (w : World), wpLast P md ops Q S z f L a w → wpAny P md ops Q f L a w
 | 0, _, _, _, h => h
 | f + 1, _, _, _, h => ⟨h.1, fun i hi => wpOp_mono (fun a' w' k => wpLast.any f _ a' w' k.2) (h.2 i hi)⟩
theorem wpLast.first (hi : ops[i]? = some o) (hsel : Region.noSelect ops = true) (hQ : ∀ c a w, Q (.panic c) (a.put o.dst v) w → Q (.panic c) a w) (hz : waitsFor md ops z i = true) (hiz : i ≠ z) (f : Nat) :
  ∀ (L : Array Bool) (a : Act) (w : World), (∀ j oj, ops[j]? = some oj → j ≠ i → L.getD j true = false → (∀ e ∈ oj.after, Region.binds md e = true → e.on ≠ i) → o.apart ops oj = true) →
   i ∈ Region.ready md ops L → YieldsIf P ops S o v a → S w → wpLast P md ops Q S z f (L.setIfInBounds i true) (a.put o.dst v) w → wpLast P md ops Q S z (f + 1) L a w := by
 induction f with
 | zero =>
  intro L a w _ hr hy hS H;refine ⟨fun h => absurd (h ▸ hr) (by simp), fun j hj => ?_⟩;rcases Nat.decEq j i with hne | rfl
  ·have h0 := ready_mono hj hne;rw [H.1] at h0;simp at h0
  ·exact hy.wpOp hi hS ⟨fun _ => hS, H⟩
 | succ f ih =>
  intro L a w hf hr hy hS H;refine ⟨fun h => absurd (h ▸ hr) (by simp), fun j hj => ?_⟩;rcases Nat.decEq j i with hne | rfl
  ·obtain ⟨un, oj, hoj, hall⟩ := mem_ready.1 hj;have un0 := (mem_ready.1 hr).1;have hno : ∀ e ∈ oj.after, Region.binds md e = true → e.on ≠ i := by
    intro e he hb q;have h1 := hall e he hb;rw [q] at h1;rcases Nat.lt_or_ge i L.size with lt | ge
    ·simp [lt] at un0 h1;rw [un0] at h1;cases h1
    ·simp [Array.getElem?_eq_none ge] at h1
   have hjz : j ≠ z := by
    rintro rfl;unfold waitsFor at hz;rw [hoj] at hz;simp only [Array.any_eq_true, Bool.and_eq_true, beq_iff_eq] at hz;obtain ⟨x, hx, hb, ho⟩ := hz;exact hno _ (Array.getElem_mem hx) hb ho
   have h2 := wpOp_putIf hoj (hf j oj hoj hne un hno) (fun cs b => Region.noSelect_spec hsel i o cs b hi) (fun cs b => Region.noSelect_spec hsel j oj cs b hoj) hQ hy (H.2 j (ready_mono hj hne));refine wpOp_mono (fun a' w' k => ⟨k.2.1, ih _ a' w' (fun x ox hx hxi hun hn => hf x ox hx hxi ?_ hn) (ready_mono hr (Ne.symm hne)) k.1 (k.2.1 hjz) ?_⟩) h2
   ·rcases Nat.decEq j x with ne | rfl
    ·rw [getD_set_ne true ne] at hun; exact hun
    ·exact un
   ·rw [Array.setIfInBounds_comm _ _ hne];exact k.2.2
  ·exact hy.wpOp hi hS ⟨fun _ => hS, H⟩
/-- number i is taken first -/
theorem wpLast_take (hi : ops[i]? = some o) (hz : (waitsFor md ops z i && decide (i ≠ z)) = true) (hs : Region.noSelect ops = true) (hf : Region.free md ops L i = true) (hr : (Region.ready md ops L).contains i = true)
  (hQ : ∀ c a w, Q (.panic c) (a.put o.dst v) w → Q (.panic c) a w) (hy : YieldsIf P ops S o v a) (hS : S w) (h : wpLast P md ops Q S z f (L.setIfInBounds i true) (a.put o.dst v) w) : wpLast P md ops Q S z (f + 1) L a w := by
 simp only [Bool.and_eq_true, decide_eq_true_eq] at hz;exact wpLast.first hi hs hQ hz.1 hz.2 f L a w (Region.free_spec hi hf) (by simpa using hr) hy hS h
def AllLast (P : Program) (md : Region.Mode) (ops : Array Oper) (Q : Exit → Act → World → Prop) (S : World → Prop) (z f : Nat) (L : Array Bool) (a : Act) (w : World) (rs : List Nat) : Prop :=
 ∀ i ∈ rs, wpOp P ops Q i (fun a' w' => (i ≠ z → S w') ∧ wpLast P md ops Q S z f (L.setIfInBounds i true) a' w') a w
theorem AllLast.nil : AllLast P md ops Q S z f L a w [] := fun i hi => absurd hi (by simp)
theorem AllLast.cons (ho : ops[i]? = some o)
  (h : ∀ K : Act → World → Prop, Shut (∀ a w, S w → (S w → wpLast P md ops Q S z f (L.setIfInBounds i true) a w) → K a w) → if Region.wanted o (yielded ops a.tmps) = true then Oper.wp P o a w K Q else K (a.put o.dst undef) w)
  (hs : AllLast P md ops Q S z f L a w rs) : AllLast P md ops Q S z f L a w (i :: rs) := by
 intro j hj;rcases List.mem_cons.1 hj with rfl | hj
 ·exact wpOp_step ho (fun K hK => h K (fun a w hS hW => hK a w ⟨fun _ => hS, hW hS⟩))
 ·exact hs j hj
theorem wpLast_ready (hr : Region.ready md ops L = rs) (hne : rs ≠ []) (h : AllLast P md ops Q S z f L a w rs) : wpLast P md ops Q S z (f + 1) L a w :=
 ⟨fun h0 => absurd (hr.symm.trans h0) hne, by rw [hr]; exact h⟩
/-- the last one: S is not asked for behind it -/
theorem wpLast_end (hr : Region.ready md ops L = [z]) (ho : ops[z]? = some o) (hl : Region.ready md ops (L.setIfInBounds z true) = [])
  (h : ∀ K : Act → World → Prop, Shut (∀ a w, Q .normal a w → K a w) → if Region.wanted o (yielded ops a.tmps) = true then Oper.wp P o a w K Q else K (a.put o.dst undef) w) : wpLast P md ops Q S z (f + 1) L a w := by
 refine ⟨fun h0 => absurd (hr.symm.trans h0) (by simp), ?_⟩;rw [hr];intro i hi;obtain rfl : i = z := by simpa using hi
 refine wpOp_step ho (fun K hK => h K (fun a w hq => hK a w ⟨fun hne => absurd rfl hne, ?_⟩));cases f with
 | zero => exact ⟨hl, hq⟩
 | succ f => exact ⟨fun _ => hq, by rw [hl]; simp⟩
theorem wp_region_last (z : Nat) {id : Nat} {a : Act} {w : World} (hm : P.follows .mixedOrders = true) (hS : S w.drew) (h : S w.drew → wpLast P .any ops Q S z ops.size (Array.replicate ops.size false) a w.drew) : (Code.region id ops true).wp P Q a w :=
 wp_region_any hm (wpLast.any _ _ _ _ (h hS))
end
/-- slots that are set -/
theorem qq : (∀ (a : Act) (d : Tmp) (v : Value), a.put (some d) v = { a with tmps := a.tmps.setIfInBounds d v }) ∧ (∀ (a : Act) (v : Value), a.put none v = a) ∧
  (∀ (l : List Value) (i : Nat) (x : Value), l.toArray.setIfInBounds i x = (l.set i x).toArray) ∧ (∀ (x y : Value) (l : List Value), (x :: l).set 0 y = y :: l) ∧ (∀ (x y : Value) (l : List Value) (i : Nat), (x :: l).set (i + 1) y = x :: l.set i y) :=
 ⟨fun _ _ _ => rfl, fun _ _ => rfl, fun l i x => List.setIfInBounds_toArray l i x, fun _ _ _ => rfl, fun _ _ _ _ => rfl⟩
theorem qz : (∀ {α : Type} (l : List α), l.toArray.size = l.length) ∧ (∀ {α : Type} (x : α) (l : List α), (x :: l).length = l.length + 1) ∧ (∀ {α : Type}, ([] : List α).length = 0) ∧ (∀ {α : Type} (n : Nat) (x : α), Array.replicate (n + 1) x = (Array.replicate n x).push x) ∧ (∀ {α : Type} (x : α), Array.replicate 0 x = #[]) ∧
  (∀ {α : Type} (l : List α) (x : α), l.toArray.push x = (l ++ [x]).toArray) ∧ (∀ {α : Type} (l m : List α), l.toArray ++ m.toArray = (l ++ m).toArray) ∧ (∀ {α : Type} (l : List α), [] ++ l = l) ∧ (∀ {α : Type} (x : α) (l m : List α), x :: l ++ m = x :: (l ++ m)) :=
 ⟨fun l => List.size_toArray, fun x l => List.length_cons, List.length_nil, fun n x => Array.replicate_succ, fun x => Array.replicate_zero, fun l x => List.push_toArray l x, fun l m => List.append_toArray l m, fun l => List.nil_append l, fun x l m => List.cons_append⟩
section
variable {P : Program} {ops : Array Oper} {Q : Exit → Act → World → Prop} {md : Region.Mode} {S : World → Prop} {z f i : Nat} {L : Array Bool} {a : Act} {w : World} {o : Oper} {v : Value} {l : List Nat}
def planH (P : Program) (md : Region.Mode) (ops : Array Oper) (Q : Exit → Act → World → Prop) (S : World → Prop) (l : List Nat) (f : Nat) (L : Array Bool) (a : Act) (w : World) : Prop := wpAnyH P md ops Q S f L a w
theorem planH.go (l : List Nat) (h : planH P md ops Q S l f L a w) : wpAnyH P md ops Q S f L a w := h
theorem planH.fin (h : wpAnyH P md ops Q S f L a w) : planH P md ops Q S [] f L a w := h
theorem planH.take (hi : ops[i]? = some o) (hk : (Region.noSelect ops && (Region.free md ops L i && (Region.ready md ops L).contains i)) = true) (hw : Region.wanted o (yielded ops a.tmps) = true)
  (hQ : ∀ c a w, Q (.panic c) (a.put o.dst v) w → Q (.panic c) a w) (hS : S w) (hy : ∀ w, S w → (execOp a.eval o).run P w = .ok (.value v) w) (h : planH P md ops Q S l f (L.setIfInBounds i true) (a.put o.dst v) w) : planH P md ops Q S (i :: l) (f + 1) L a w := by
 simp only [Bool.and_eq_true] at hk;exact wpAnyH_take hi hk.1 hk.2.1 hk.2.2 hQ (.inl ⟨hw, hy⟩) hS h
theorem planH.skip (hi : ops[i]? = some o) (hk : (Region.noSelect ops && (Region.free md ops L i && (Region.ready md ops L).contains i)) = true) (hw : Region.wanted o (yielded ops a.tmps) = false)
  (hQ : ∀ c a w, Q (.panic c) (a.put o.dst undef) w → Q (.panic c) a w) (hS : S w) (h : planH P md ops Q S l f (L.setIfInBounds i true) (a.put o.dst undef) w) : planH P md ops Q S (i :: l) (f + 1) L a w := by
 simp only [Bool.and_eq_true] at hk;exact wpAnyH_take hi hk.1 hk.2.1 hk.2.2 hQ (.inr ⟨hw, rfl⟩) hS h
def planL (P : Program) (md : Region.Mode) (ops : Array Oper) (Q : Exit → Act → World → Prop) (S : World → Prop) (z : Nat) (l : List Nat) (f : Nat) (L : Array Bool) (a : Act) (w : World) : Prop := wpLast P md ops Q S z f L a w
theorem planL.go (l : List Nat) (h : planL P md ops Q S z l f L a w) : wpLast P md ops Q S z f L a w := h
theorem planL.fin (h : wpLast P md ops Q S z f L a w) : planL P md ops Q S z [] f L a w := h
theorem planL.take (hi : ops[i]? = some o) (hk : (waitsFor md ops z i && decide (i ≠ z) && (Region.noSelect ops && (Region.free md ops L i && (Region.ready md ops L).contains i))) = true) (hw : Region.wanted o (yielded ops a.tmps) = true)
  (hQ : ∀ c a w, Q (.panic c) (a.put o.dst v) w → Q (.panic c) a w) (hS : S w) (hy : ∀ w, S w → (execOp a.eval o).run P w = .ok (.value v) w) (h : planL P md ops Q S z l f (L.setIfInBounds i true) (a.put o.dst v) w) : planL P md ops Q S z (i :: l) (f + 1) L a w := by
 obtain ⟨h1, h2⟩ := Bool.and_eq_true_iff.1 hk;obtain ⟨h3, h4⟩ := Bool.and_eq_true_iff.1 h2;obtain ⟨h5, h6⟩ := Bool.and_eq_true_iff.1 h4;exact wpLast_take hi h1 h3 h5 h6 hQ (.inl ⟨hw, hy⟩) hS h
theorem rdH (i : Nat) (hr : Region.ready md ops L = [i]) (ho : ops[i]? = some o) (h : ∀ K' : Act → World → Prop, Shut (∀ a w, S w → (S w → wpAnyH P md ops Q S f (L.setIfInBounds i true) a w) → K' a w) → if Region.wanted o (yielded ops a.tmps) = true then Oper.wp P o a w K' Q else K' (a.put o.dst undef) w) : wpAnyH P md ops Q S (f + 1) L a w :=
 wpAnyH_ready hr (by simp) (AllReadyH.cons ho h AllReadyH.nil)
theorem rdL (i : Nat) (hr : Region.ready md ops L = [i]) (ho : ops[i]? = some o) (h : ∀ K : Act → World → Prop, Shut (∀ a w, S w → (S w → wpLast P md ops Q S z f (L.setIfInBounds i true) a w) → K a w) → if Region.wanted o (yielded ops a.tmps) = true then Oper.wp P o a w K Q else K (a.put o.dst undef) w) : wpLast P md ops Q S z (f + 1) L a w :=
 wpLast_ready hr (by simp) (AllLast.cons ho h AllLast.nil)
end
/-- a piece of code whose orders all come to one end -/
theorem wp_gen {P : Program} {c : Code} {Q : Exit → Act → World → Prop} (Fin : Act → Act → World → Prop)
  (hp : ∀ x a dst v w, Q (.panic x) (Act.put a dst v) w → Q (.panic x) a w)
  (h1 : ∀ Q' : Exit → Act → World → Prop, (∀ x a dst v w, Q' (.panic x) (Act.put a dst v) w → Q' (.panic x) a w) → Hid (∀ a' w', Fin a a' w' → Q' .normal a' w') → c.wp P Q' a w)
  (h2 : ∀ a' w', Fin a a' w' → Q .normal a' w') : c.wp P Q a w := h1 Q hp h2
abbrev Blk (w : World) (b : Nat) (c : Array Value) (t : TypeId) : Prop := w.heap[b]? = some (.cells c t (0, 0))
theorem Blk.lt (h : Blk w b c t) : b < w.heap.size := by
 unfold Blk at h;exact (Array.getElem?_eq_some_iff.1 h).1
theorem Blk.ext (h : Blk w b c t) (hb : Below w.heap.size w w') : Blk w' b c t :=
 (hb.block b h.lt).trans h
theorem Blk.below {B : Nat} (h : Blk w b c t) (hb : Below B w w') (hB : b < B) : Blk w' b c t :=
 (hb.block b hB).trans h
theorem Blk.alloc (h : Blk w b c t) (o : Obj) : Blk (w.alloc o) b c t :=
 (Below.heap_alloc w o b h.lt).trans h
theorem Blk.new (w : World) (c : Array Value) (t : TypeId) : Blk (w.alloc (.cells c t)) w.heap.size c t := heap_alloc_new w _
theorem Blk.new' (c : Array Value) (t : TypeId) (hb : b = w.heap.size) : Blk (w.alloc (.cells c t)) b c t := hb ▸ heap_alloc_new w _
theorem Blk.setCell (h : Blk w b c t) {p : Addr} (hp : b ≠ p.block) (v : Value) : Blk (w.setCell p v) b c t :=
 (heap_setCell_other w p b v hp).trans h
theorem Blk.drew (h : Blk w b c t) : Blk w.drew b c t := h
theorem Blk.cell (h : Blk w b c t) (o : Nat) : w.cell? ⟨b, o, none⟩ = c[o]? := cell_of_row w b o c t _ h
theorem Blk.free (h : Blk w b c t) (o : Nat) : w.frozen? ⟨b, o, none⟩ = false := frozen_of_row w b o c t h
theorem ext_trans {a b c : World} (h : Below a.heap.size a b) (k : Below b.heap.size b c) : Below a.heap.size a c := h.trans (k.mono h.size)
theorem ext_alloc {a b : World} (h : Below a.heap.size a b) (o : Obj) : Below a.heap.size a (b.alloc o) := h.alloc h.size o
theorem wpList_store_last {ops : Array Oper} {rest : List Oper} {dst : Option Tmp} {x y : Operand} {ty τ : TypeId} {pos : String} {after : Array Edge} {a : Act} {w0 : World} {c : Array Value} {Q : Exit → Act → World → Prop}
  (cells : Array Value) (hx : a.eval x = .pointer (some ⟨w0.heap.size, 0, none⟩)) (hy : a.eval y = .agg cells)
  (hi : (Try.prog.info? ty).map (·.size) = some cells.size) (hc : c.size = cells.size) (h1 : cells.all (·.oneCell') = true)
  (h : wpList Try.prog ops Q rest (a.put dst undef) (w0.alloc (.cells cells ty))) :
  wpList Try.prog ops Q ({ dst := dst, op := .store ty x y, type := τ, pos := pos, after := after, guard := none } :: rest) a (w0.alloc (.cells c ty)) :=
 wpList_plain rfl fun _ hK => by
  unfold Oper.wp execOp;simp only [hx, hy, Instr.storeAt, Instr.sureAddr, Sem.run_bind, Sem.run_pure, Result.andThen_ok, run_storeVar_new (P := Try.prog) w0 ty c cells hi hc h1];exact hK _ _ h
theorem wpList_load_blk {ops : Array Oper} {rest : List Oper} {dst : Option Tmp} {x : Operand} {ty τ : TypeId} {pos : String} {after : Array Edge} {a : Act} {w : World} {Q : Exit → Act → World → Prop}
  (g : Nat) (cs : Array Value) (d : TypeDesc) (hx : a.eval x = .pointer (some ⟨g, 0, none⟩)) (hg : Blk w g cs ty)
  (hu : Try.prog.underlying ty = some d) (hd : d.isRow = true) (hi : (Try.prog.info? ty).map (·.size) = some cs.size)
  (h : wpList Try.prog ops Q rest (a.put dst (.agg cs)) w) :
  wpList Try.prog ops Q ({ dst := dst, op := .load ty x, type := τ, pos := pos, after := after, guard := none } :: rest) a w :=
 wpList_load_row (o := { dst := dst, op := .load ty x, type := τ, pos := pos, after := after, guard := none }) rfl ty x rfl g hx ty cs (0, 0) d hg hu (by cases d <;> simp_all [TypeDesc.isRow]) hi h
theorem wpList_build_to {ops : Array Oper} {rest : List Oper} {dst : Option Tmp} {parts : Array (Nat × Operand)} {ty τ : TypeId} {pos : String} {after : Array Edge} {a : Act} {w : World} {Q : Exit → Act → World → Prop}
  (cells : Array Value) (hb : Try.prog.built ty (parts.map fun (i, x) => (i, a.eval x)).toList = some cells)
  (h : wpList Try.prog ops Q rest (a.put dst (.agg cells)) w) :
  wpList Try.prog ops Q ({ dst := dst, op := .build ty parts, type := τ, pos := pos, after := after, guard := none } :: rest) a w :=
 wpList_build (o := { dst := dst, op := .build ty parts, type := τ, pos := pos, after := after, guard := none }) rfl ty parts rfl (by rw [hb]; rfl) (by rw [hb]; exact h)
theorem ret_cell {fn : Func} {p : Tmp} {ty : TypeId} (hr : fn.results = #[.cell p ty]) {post : Ending → World → Prop} {a : Act} {w : World} (g : Nat) (cs : Array Value) (d : TypeDesc)
  (hp : a.tmps.getD p undef = .pointer (some ⟨g, 0, none⟩)) (hd : a.defers = []) (hg : Blk w g cs ty)
  (hu : Try.prog.underlying ty = some d) (hrow : d.isRow = true) (hi : (Try.prog.info? ty).map (·.size) = some cs.size) (h : post (.returned (.agg cs)) w) :
  bodyPost Try.prog fn post .ret a w :=
 bodyPost_ret (v := .agg cs) (results_cell_row hr _ w g ty cs (0, 0) d hp hg hu (by cases d <;> simp_all [TypeDesc.isRow]) hi) hd h
theorem wpList_load_rec {ops : Array Oper} {rest : List Oper} {dst : Option Tmp} {x : Operand} {τ : TypeId} {pos : String} {after : Array Edge} {a : Act} {w : World} {Q : Exit → Act → World → Prop}
  (g : Nat) (cs : Array Value) (hs : cs.size = 18) (hx : a.eval x = .pointer (some ⟨g, 0, none⟩)) (hg : Blk w g cs 31)
  (h : wpList Try.prog ops Q rest (a.put dst (.agg cs)) w) :
  wpList Try.prog ops Q ({ dst := dst, op := .load 31 x, type := τ, pos := pos, after := after, guard := none } :: rest) a w :=
 wpList_load_blk g cs _ hx hg Try.underlying31 rfl (by rw [hs]; kernel_rfl) h
theorem wpList_store_rec {ops : Array Oper} {rest : List Oper} {dst : Option Tmp} {x y : Operand} {τ : TypeId} {pos : String} {after : Array Edge} {a : Act} {w0 : World} {c : Array Value} {Q : Exit → Act → World → Prop}
  (cells : Array Value) (hs : cells.size = 18) (hx : a.eval x = .pointer (some ⟨w0.heap.size, 0, none⟩)) (hy : a.eval y = .agg cells) (hc : c.size = 18) (h1 : cells.all (·.oneCell') = true)
  (h : wpList Try.prog ops Q rest (a.put dst undef) (w0.alloc (.cells cells 31))) :
  wpList Try.prog ops Q ({ dst := dst, op := .store 31 x y, type := τ, pos := pos, after := after, guard := none } :: rest) a (w0.alloc (.cells c 31)) :=
 wpList_store_last cells hx hy (by rw [hs]; kernel_rfl) (by rw [hc, hs]) h1 h
abbrev Sl := Int × ByteArray
def SlotsAt (w : World) (a : Option Addr) (l : List Sl) : Prop :=
 ∀ i s, l[i]? = some s → ∃ b off, a = some ⟨b, off, none⟩ ∧ b < w.heap.size ∧ w.cell? ⟨b, off + i * 2, none⟩ = some (.int .i64 s.1) ∧ w.cell? ⟨b, off + i * 2 + 1, none⟩ = some (.string s.2) ∧ s.2.size ≤ maxLen ∧ (Lit.int .i64 s.1).wf = true
theorem SlotsAt.ext {a : Option Addr} {l : List Sl} (h : SlotsAt w a l) (hb : Below w.heap.size w w') : SlotsAt w' a l := fun i s hs => by
 obtain ⟨b, off, ha, hlt, c0, c1, r⟩ := h i s hs;exact ⟨b, off, ha, Nat.lt_of_lt_of_le hlt hb.size, (hb.cell (p := ⟨b, off + i * 2, none⟩) hlt).trans c0, (hb.cell (p := ⟨b, off + i * 2 + 1, none⟩) hlt).trans c1, r⟩
end Go.Proofs.Ytjdceoimignnpaa
