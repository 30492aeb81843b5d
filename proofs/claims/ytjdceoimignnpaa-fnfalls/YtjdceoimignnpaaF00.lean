import Derived.Test.YtjdceoimignnpaaRows
import Derived.WalkKit
import Derived.ProofKit
import Derived.OpenShut
import Derived.ShutString
import Derived.ChangeOld
import Derived.Below
import Derived.Deep.QuietTactic
import Derived.BigQuiet
import Derived.Deep.RegionHeld
import Derived.Deep.WholeRow
import Derived.Deep.MidRow
import Derived.Laws.Tables
namespace Go.Proofs.Ytjdceoimignnpaa
open Go.ChangeShapes Go.WideShapes Go.ChangeAt Go.RowKit Go
set_option linter.unusedVariables false
set_option linter.unusedSimpArgs false
set_option maxHeartbeats 1000000
variable {a : Act} {L : Array Bool} {c : Array Value} {Q : Exit → Act → World → Prop} {high low n : Int} {rs : List Nat} {b f i : Nat} {o : Oper} {P : Program} {t : TypeId} {v : Value} {w w' : World}
theorem own : ownKnob Try.prog.godebug = none := by kernel_rfl
theorem laidOut : laidOutB Try.prog = true := by kernel_rfl
/-- low ≤ n ≤ high -/
def inB (n low high : Int) : Bool := decide (low ≤ n) && decide (n ≤ high)
theorem uz (h1 : low ≤ n) (h2 : n ≤ high) : inB n low high = true := by simp [inB, h1, h2]
theorem vW (h1 : ¬ low ≤ n) : inB n low high = false := by simp [inB, h1]
theorem uh (h2 : ¬ n ≤ high) : inB n low high = false := by simp [inB, h2]
theorem bK : inB n low high = true ↔ low ≤ n ∧ n ≤ high := by simp [inB]
set_option maxHeartbeats 400000 in
theorem bF (n low high : Int) (w : World) :
  Calls Try.prog 37 #[.int .i64 n, .int .i64 low, .int .i64 high] w fun e w' => e = .returned (.bool (inB n low high)) ∧ w' = w := by
 by_cases h1 : low ≤ n
 ·by_cases h2 : n ≤ high
  ·rw [uz h1 h2];go_enter Try.func37, Try.ntmps37;go_wp2;go_ret;exact ⟨rfl, rfl⟩
  ·rw [uh h2];go_enter Try.func37, Try.ntmps37;go_wp2;go_ret;exact ⟨rfl, rfl⟩
 ·rw [vW h1];go_enter Try.func37, Try.ntmps37;go_wp2;go_ret;exact ⟨rfl, rfl⟩
set_option maxHeartbeats 400000 in
theorem cZ (n low high : Int) (w : World) :
  Calls Try.prog 46 #[.int .i64 n, .int .i64 low, .int .i64 high] w fun e w' => e = .returned (.bool (inB n low high)) ∧ w' = w := by
 by_cases h1 : low ≤ n
 ·by_cases h2 : n ≤ high
  ·rw [uz h1 h2];go_enter Try.func46, Try.ntmps46;go_wp2;go_ret;exact ⟨rfl, rfl⟩
  ·rw [uh h2];go_enter Try.func46, Try.ntmps46;go_wp2;go_ret;exact ⟨rfl, rfl⟩
 ·rw [vW h1];go_enter Try.func46, Try.ntmps46;go_wp2;go_ret;exact ⟨rfl, rfl⟩
abbrev bP : Array Value := #[.int .i64 0, .int .i64 0, .bool false, .int .i64 0, .int .i64 0, .slice none 0 0, .int .i64 0, .int .i64 0, .slice none 0 0, .slice none 0 0, .slice none 0 0, .bool false, .bool false, .int .i64 0, .slice none 0 0, .slice none 0 0, .slice none 0 0, .int .i64 0]
section
variable {P : Program} {ops : Array Oper} {Q : Exit → Act → World → Prop} {md : Region.Mode} {S : World → Prop} {z : Nat}
/-- number z waits for number i -/
def waitsFor (md : Region.Mode) (ops : Array Oper) (z i : Nat) : Bool :=
 match ops[z]? with
 | some o => o.after.any fun e => Region.binds md e && (e.on == i)
 | none => false
/-- whatever order is picked; S holds behind every operation but number z -/
def dW (P : Program) (md : Region.Mode) (ops : Array Oper) (Q : Exit → Act → World → Prop) (S : World → Prop) (z : Nat) : Nat → Array Bool → Act → World → Prop
 | 0, L, a, w => Region.ready md ops L = [] ∧ Q .normal a w
 | f + 1, L, a, w => (Region.ready md ops L = [] → Q .normal a w) ∧ ∀ i ∈ Region.ready md ops L, wpOp P ops Q i (fun a' w' => (i ≠ z → S w') ∧ dW P md ops Q S z f (L.setIfInBounds i true) a' w') a w
theorem dW.any : ∀ (f : Nat) (L : Array Bool) (a : Act) (w : World), dW P md ops Q S z f L a w → wpAny P md ops Q f L a w
 | 0, _, _, _, h => h
 | f + 1, _, _, _, h => ⟨h.1, fun i hi => wpOp_mono (fun a' w' k => dW.any f _ a' w' k.2) (h.2 i hi)⟩
theorem dW.first (hi : ops[i]? = some o) (hsel : Region.noSelect ops = true) (hQ : ∀ c a w, Q (.panic c) (a.put o.dst v) w → Q (.panic c) a w) (hz : waitsFor md ops z i = true) (hiz : i ≠ z) (f : Nat) :
  ∀ (L : Array Bool) (a : Act) (w : World), (∀ j oj, ops[j]? = some oj → j ≠ i → L.getD j true = false → (∀ e ∈ oj.after, Region.binds md e = true → e.on ≠ i) → o.apart ops oj = true) →
   i ∈ Region.ready md ops L → YieldsIf P ops S o v a → S w → dW P md ops Q S z f (L.setIfInBounds i true) (a.put o.dst v) w → dW P md ops Q S z (f + 1) L a w := by
 induction f with
 | zero =>
  intro L a w _ hr hy hS H;refine ⟨fun h => absurd (h ▸ hr) (by simp), fun j hj => ?_⟩;rcases Nat.decEq j i with hne | rfl
  ·have h0 := ready_mono hj hne;rw [H.1] at h0;simp at h0
  ·exact hy.wpOp hi hS ⟨fun _ => hS, H⟩
 | succ f ih =>
  intro L a w hf hr hy hS H;refine ⟨fun h => absurd (h ▸ hr) (by simp), fun j hj => ?_⟩;rcases Nat.decEq j i with hne | rfl
  ·obtain ⟨un, oj, hoj, hall⟩ := mem_ready.1 hj;have un0 := (mem_ready.1 hr).1;have hno : ∀ e ∈ oj.after, Region.binds md e = true → e.on ≠ i := by
    intro e he hb q;have h1 := hall e he hb;rw [q] at h1;rcases Nat.lt_or_ge i L.size with lt | ge
    ·simp [lt] at un0 h1;rw [un0] at h1;cases h1
    ·simp [Array.getElem?_eq_none ge] at h1
   have hjz : j ≠ z := by
    rintro rfl;unfold waitsFor at hz;rw [hoj] at hz;simp only [Array.any_eq_true, Bool.and_eq_true, beq_iff_eq] at hz;obtain ⟨x, hx, hb, ho⟩ := hz;exact hno _ (Array.getElem_mem hx) hb ho
   have h2 := wpOp_putIf hoj (hf j oj hoj hne un hno) (fun cs b => Region.noSelect_spec hsel i o cs b hi) (fun cs b => Region.noSelect_spec hsel j oj cs b hoj) hQ hy (H.2 j (ready_mono hj hne));refine wpOp_mono (fun a' w' k => ⟨k.2.1, ih _ a' w' (fun x ox hx hxi hun hn => hf x ox hx hxi ?_ hn) (ready_mono hr (Ne.symm hne)) k.1 (k.2.1 hjz) ?_⟩) h2
   ·rcases Nat.decEq j x with ne | rfl
    ·rw [getD_set_ne true ne] at hun; exact hun
    ·exact un
   ·rw [Array.setIfInBounds_comm _ _ hne];exact k.2.2
  ·exact hy.wpOp hi hS ⟨fun _ => hS, H⟩
/-- number i is taken first -/
theorem dO (hi : ops[i]? = some o) (hz : (waitsFor md ops z i && decide (i ≠ z)) = true) (hs : Region.noSelect ops = true) (hf : Region.free md ops L i = true) (hr : (Region.ready md ops L).contains i = true)
  (hQ : ∀ c a w, Q (.panic c) (a.put o.dst v) w → Q (.panic c) a w) (hy : YieldsIf P ops S o v a) (hS : S w) (h : dW P md ops Q S z f (L.setIfInBounds i true) (a.put o.dst v) w) : dW P md ops Q S z (f + 1) L a w := by
 simp only [Bool.and_eq_true, decide_eq_true_eq] at hz;exact dW.first hi hs hQ hz.1 hz.2 f L a w (Region.free_spec hi hf) (by simpa using hr) hy hS h
def aK (P : Program) (md : Region.Mode) (ops : Array Oper) (Q : Exit → Act → World → Prop) (S : World → Prop) (z f : Nat) (L : Array Bool) (a : Act) (w : World) (rs : List Nat) : Prop :=
 ∀ i ∈ rs, wpOp P ops Q i (fun a' w' => (i ≠ z → S w') ∧ dW P md ops Q S z f (L.setIfInBounds i true) a' w') a w
theorem aK.nil : aK P md ops Q S z f L a w [] := fun i hi => absurd hi (by simp)
theorem aK.cons (ho : ops[i]? = some o)
  (h : ∀ K : Act → World → Prop, Shut (∀ a w, S w → (S w → dW P md ops Q S z f (L.setIfInBounds i true) a w) → K a w) → if Region.wanted o (yielded ops a.tmps) = true then Oper.wp P o a w K Q else K (a.put o.dst undef) w)
  (hs : aK P md ops Q S z f L a w rs) : aK P md ops Q S z f L a w (i :: rs) := by
 intro j hj;rcases List.mem_cons.1 hj with rfl | hj
 ·exact wpOp_step ho (fun K hK => h K (fun a w hS hW => hK a w ⟨fun _ => hS, hW hS⟩))
 ·exact hs j hj
theorem bu (hr : Region.ready md ops L = rs) (hne : rs ≠ []) (h : aK P md ops Q S z f L a w rs) : dW P md ops Q S z (f + 1) L a w :=
 ⟨fun h0 => absurd (hr.symm.trans h0) hne, by rw [hr]; exact h⟩
/-- the last one: S is not asked for behind it -/
theorem Cb (hr : Region.ready md ops L = [z]) (ho : ops[z]? = some o) (hl : Region.ready md ops (L.setIfInBounds z true) = [])
  (h : ∀ K : Act → World → Prop, Shut (∀ a w, Q .normal a w → K a w) → if Region.wanted o (yielded ops a.tmps) = true then Oper.wp P o a w K Q else K (a.put o.dst undef) w) : dW P md ops Q S z (f + 1) L a w := by
 refine ⟨fun h0 => absurd (hr.symm.trans h0) (by simp), ?_⟩;rw [hr];intro i hi;obtain rfl : i = z := by simpa using hi
 refine wpOp_step ho (fun K hK => h K (fun a w hq => hK a w ⟨fun hne => absurd rfl hne, ?_⟩));cases f with
 | zero => exact ⟨hl, hq⟩
 | succ f => exact ⟨fun _ => hq, by rw [hl]; simp⟩
theorem aI (z : Nat) {id : Nat} {a : Act} {w : World} (hm : P.follows .mixedOrders = true) (hS : S w.drew) (h : S w.drew → dW P .any ops Q S z ops.size (Array.replicate ops.size false) a w.drew) : (Code.region id ops true).wp P Q a w :=
 wp_region_any hm (dW.any _ _ _ _ (h hS))
end
theorem aJ {ops : Array Oper} {md : Region.Mode} {S : World → Prop} {z : Nat} (h : ∀ K : Act → World → Prop, Shut (∀ a w, Q .normal a w → K a w) → if Region.wanted o (yielded ops a.tmps) = true then Oper.wp P o a w K Q else K (a.put o.dst undef) w) (hr : Region.ready md ops L = [z] := by kernel_rfl) (ho : ops[z]? = some o := by exact ax rfl) (hl : Region.ready md ops (L.setIfInBounds z true) = [] := by kernel_rfl) : dW P md ops Q S z (f + 1) L a w := Cb hr ho hl h
/-- slots that are set -/
theorem qq : (∀ (a : Act) (d : Tmp) (v : Value), a.put (some d) v = { a with tmps := a.tmps.setIfInBounds d v }) ∧ (∀ (a : Act) (v : Value), a.put none v = a) ∧
  (∀ (l : List Value) (i : Nat) (x : Value), l.toArray.setIfInBounds i x = (l.set i x).toArray) ∧ (∀ (x y : Value) (l : List Value), (x :: l).set 0 y = y :: l) ∧ (∀ (x y : Value) (l : List Value) (i : Nat), (x :: l).set (i + 1) y = x :: l.set i y) :=
 ⟨fun _ _ _ => rfl, fun _ _ => rfl, fun l i x => List.setIfInBounds_toArray l i x, fun _ _ _ => rfl, fun _ _ _ _ => rfl⟩
theorem qz : (∀ {α : Type} (l : List α), l.toArray.size = l.length) ∧ (∀ {α : Type} (x : α) (l : List α), (x :: l).length = l.length + 1) ∧ (∀ {α : Type}, ([] : List α).length = 0) ∧ (∀ {α : Type} (n : Nat) (x : α), Array.replicate (n + 1) x = (Array.replicate n x).push x) ∧ (∀ {α : Type} (x : α), Array.replicate 0 x = #[]) ∧
  (∀ {α : Type} (l : List α) (x : α), l.toArray.push x = (l ++ [x]).toArray) ∧ (∀ {α : Type} (l m : List α), l.toArray ++ m.toArray = (l ++ m).toArray) ∧ (∀ {α : Type} (l : List α), [] ++ l = l) ∧ (∀ {α : Type} (x : α) (l m : List α), x :: l ++ m = x :: (l ++ m)) :=
 ⟨fun l => List.size_toArray, fun x l => List.length_cons, List.length_nil, fun n x => Array.replicate_succ, fun x => Array.replicate_zero, fun l x => List.push_toArray l x, fun l m => List.append_toArray l m, fun l => List.nil_append l, fun x l m => List.cons_append⟩
section
variable {P : Program} {ops : Array Oper} {Q : Exit → Act → World → Prop} {md : Region.Mode} {S : World → Prop} {z f i : Nat} {L : Array Bool} {a : Act} {w : World} {o : Oper} {v : Value} {l : List Nat}
def ag (P : Program) (md : Region.Mode) (ops : Array Oper) (Q : Exit → Act → World → Prop) (S : World → Prop) (l : List Nat) (f : Nat) (L : Array Bool) (a : Act) (w : World) : Prop := wpAnyH P md ops Q S f L a w
theorem ag.go (l : List Nat) (h : ag P md ops Q S l f L a w) : wpAnyH P md ops Q S f L a w := h
theorem ag.fin (h : wpAnyH P md ops Q S f L a w) : ag P md ops Q S [] f L a w := h
theorem ag.take (hi : ops[i]? = some o) (hk : (Region.noSelect ops && (Region.free md ops L i && (Region.ready md ops L).contains i)) = true) (hw : Region.wanted o (yielded ops a.tmps) = true)
  (hQ : ∀ c a w, Q (.panic c) (a.put o.dst v) w → Q (.panic c) a w) (hS : S w) (hy : ∀ w, S w → (execOp a.eval o).run P w = .ok (.value v) w) (h : ag P md ops Q S l f (L.setIfInBounds i true) (a.put o.dst v) w) : ag P md ops Q S (i :: l) (f + 1) L a w := by
 simp only [Bool.and_eq_true] at hk;exact wpAnyH_take hi hk.1 hk.2.1 hk.2.2 hQ (.inl ⟨hw, hy⟩) hS h
theorem ag.skip (hi : ops[i]? = some o) (hk : (Region.noSelect ops && (Region.free md ops L i && (Region.ready md ops L).contains i)) = true) (hw : Region.wanted o (yielded ops a.tmps) = false)
  (hQ : ∀ c a w, Q (.panic c) (a.put o.dst undef) w → Q (.panic c) a w) (hS : S w) (h : ag P md ops Q S l f (L.setIfInBounds i true) (a.put o.dst undef) w) : ag P md ops Q S (i :: l) (f + 1) L a w := by
 simp only [Bool.and_eq_true] at hk;exact wpAnyH_take hi hk.1 hk.2.1 hk.2.2 hQ (.inr ⟨hw, rfl⟩) hS h
def bg (P : Program) (md : Region.Mode) (ops : Array Oper) (Q : Exit → Act → World → Prop) (S : World → Prop) (z : Nat) (l : List Nat) (f : Nat) (L : Array Bool) (a : Act) (w : World) : Prop := dW P md ops Q S z f L a w
theorem bg.go (l : List Nat) (h : bg P md ops Q S z l f L a w) : dW P md ops Q S z f L a w := h
theorem bg.fin (h : dW P md ops Q S z f L a w) : bg P md ops Q S z [] f L a w := h
theorem bg.take (hi : ops[i]? = some o) (hk : (waitsFor md ops z i && decide (i ≠ z) && (Region.noSelect ops && (Region.free md ops L i && (Region.ready md ops L).contains i))) = true) (hw : Region.wanted o (yielded ops a.tmps) = true)
  (hQ : ∀ c a w, Q (.panic c) (a.put o.dst v) w → Q (.panic c) a w) (hS : S w) (hy : ∀ w, S w → (execOp a.eval o).run P w = .ok (.value v) w) (h : bg P md ops Q S z l f (L.setIfInBounds i true) (a.put o.dst v) w) : bg P md ops Q S z (i :: l) (f + 1) L a w := by
 obtain ⟨h1, h2⟩ := Bool.and_eq_true_iff.1 hk;obtain ⟨h3, h4⟩ := Bool.and_eq_true_iff.1 h2;obtain ⟨h5, h6⟩ := Bool.and_eq_true_iff.1 h4;exact dO hi h1 h3 h5 h6 hQ (.inl ⟨hw, hy⟩) hS h
theorem Oe (i : Nat) (hr : Region.ready md ops L = [i]) (ho : ops[i]? = some o) (h : ∀ K' : Act → World → Prop, Shut (∀ a w, S w → (S w → wpAnyH P md ops Q S f (L.setIfInBounds i true) a w) → K' a w) → if Region.wanted o (yielded ops a.tmps) = true then Oper.wp P o a w K' Q else K' (a.put o.dst undef) w) : wpAnyH P md ops Q S (f + 1) L a w :=
 wpAnyH_ready hr (by simp) (AllReadyH.cons ho h AllReadyH.nil)
theorem N8 (i : Nat) (hr : Region.ready md ops L = [i]) (ho : ops[i]? = some o) (h : ∀ K : Act → World → Prop, Shut (∀ a w, S w → (S w → dW P md ops Q S z f (L.setIfInBounds i true) a w) → K a w) → if Region.wanted o (yielded ops a.tmps) = true then Oper.wp P o a w K Q else K (a.put o.dst undef) w) : dW P md ops Q S z (f + 1) L a w :=
 bu hr (by simp) (aK.cons ho h aK.nil)
theorem ag.tb (hS : S w) (h : ag P md ops Q S l f (L.setIfInBounds i true) (a.put o.dst v) w) (hi : ops[i]? = some o := by exact ax rfl) (hk : (Region.noSelect ops && (Region.free md ops L i && (Region.ready md ops L).contains i)) = true := by kernel_rfl) (hw : Region.wanted o (yielded ops a.tmps) = true := by rfl) (hQ : ∀ c a w, Q (.panic c) (a.put o.dst v) w → Q (.panic c) a w := by exact fun _ _ _ h => h) (hy : ∀ w, S w → (execOp a.eval o).run P w = .ok (.value v) w := by intro w9 hSw; have hq := hSw.blk.cell; clear hSw; go_simp; try with_reducible rfl) : ag P md ops Q S (i :: l) (f + 1) L a w := ag.take hi hk hw hQ hS hy h
theorem ag.tn (hS : S w) (h : ag P md ops Q S l f (L.setIfInBounds i true) (a.put o.dst v) w) (hi : ops[i]? = some o := by exact ax rfl) (hk : (Region.noSelect ops && (Region.free md ops L i && (Region.ready md ops L).contains i)) = true := by kernel_rfl) (hw : Region.wanted o (yielded ops a.tmps) = true := by rfl) (hQ : ∀ c a w, Q (.panic c) (a.put o.dst v) w → Q (.panic c) a w := by exact fun _ _ _ h => h) (hy : ∀ w, S w → (execOp a.eval o).run P w = .ok (.value v) w := by intro w9 hSw; clear hSw; go_simp; try with_reducible rfl) : ag P md ops Q S (i :: l) (f + 1) L a w := ag.take hi hk hw hQ hS hy h
theorem ag.sk (hS : S w) (h : ag P md ops Q S l f (L.setIfInBounds i true) (a.put o.dst undef) w) (hi : ops[i]? = some o := by exact ax rfl) (hk : (Region.noSelect ops && (Region.free md ops L i && (Region.ready md ops L).contains i)) = true := by kernel_rfl) (hw : Region.wanted o (yielded ops a.tmps) = false := by rfl) (hQ : ∀ c a w, Q (.panic c) (a.put o.dst undef) w → Q (.panic c) a w := by exact fun _ _ _ h => h) : ag P md ops Q S (i :: l) (f + 1) L a w := ag.skip hi hk hw hQ hS h
theorem bV (i : Nat) (h : ∀ K' : Act → World → Prop, Shut (∀ a w, S w → (S w → wpAnyH P md ops Q S f (L.setIfInBounds i true) a w) → K' a w) → if Region.wanted o (yielded ops a.tmps) = true then Oper.wp P o a w K' Q else K' (a.put o.dst undef) w) (hr : Region.ready md ops L = [i] := by kernel_rfl) (ho : ops[i]? = some o := by exact ax rfl) : wpAnyH P md ops Q S (f + 1) L a w := Oe i hr ho h
theorem bg.tb (hS : S w) (h : bg P md ops Q S z l f (L.setIfInBounds i true) (a.put o.dst v) w) (hi : ops[i]? = some o := by exact ax rfl) (hk : (waitsFor md ops z i && decide (i ≠ z) && (Region.noSelect ops && (Region.free md ops L i && (Region.ready md ops L).contains i))) = true := by kernel_rfl) (hw : Region.wanted o (yielded ops a.tmps) = true := by rfl) (hQ : ∀ c a w, Q (.panic c) (a.put o.dst v) w → Q (.panic c) a w := by exact fun _ _ _ h => h) (hy : ∀ w, S w → (execOp a.eval o).run P w = .ok (.value v) w := by intro w9 hSw; have hq := hSw.blk.cell; clear hSw; go_simp; try with_reducible rfl) : bg P md ops Q S z (i :: l) (f + 1) L a w := bg.take hi hk hw hQ hS hy h
theorem bg.tn (hS : S w) (h : bg P md ops Q S z l f (L.setIfInBounds i true) (a.put o.dst v) w) (hi : ops[i]? = some o := by exact ax rfl) (hk : (waitsFor md ops z i && decide (i ≠ z) && (Region.noSelect ops && (Region.free md ops L i && (Region.ready md ops L).contains i))) = true := by kernel_rfl) (hw : Region.wanted o (yielded ops a.tmps) = true := by rfl) (hQ : ∀ c a w, Q (.panic c) (a.put o.dst v) w → Q (.panic c) a w := by exact fun _ _ _ h => h) (hy : ∀ w, S w → (execOp a.eval o).run P w = .ok (.value v) w := by intro w9 hSw; clear hSw; go_simp; try with_reducible rfl) : bg P md ops Q S z (i :: l) (f + 1) L a w := bg.take hi hk hw hQ hS hy h
theorem aT (i : Nat) (h : ∀ K : Act → World → Prop, Shut (∀ a w, S w → (S w → dW P md ops Q S z f (L.setIfInBounds i true) a w) → K a w) → if Region.wanted o (yielded ops a.tmps) = true then Oper.wp P o a w K Q else K (a.put o.dst undef) w) (hr : Region.ready md ops L = [i] := by kernel_rfl) (ho : ops[i]? = some o := by exact ax rfl) : dW P md ops Q S z (f + 1) L a w := N8 i hr ho h
end
/-- a piece of code whose orders all come to one end -/
theorem zx {c : Code} (Fin : Act → Act → World → Prop)
  (hp : ∀ x a dst v w, Q (.panic x) (Act.put a dst v) w → Q (.panic x) a w)
  (h1 : ∀ Q' : Exit → Act → World → Prop, (∀ x a dst v w, Q' (.panic x) (Act.put a dst v) w → Q' (.panic x) a w) → Hid (∀ a' w', Fin a a' w' → Q' .normal a' w') → c.wp P Q' a w)
  (h2 : ∀ a' w', Fin a a' w' → Q .normal a' w') : c.wp P Q a w := h1 Q hp h2
abbrev aC (w : World) (b : Nat) (c : Array Value) (t : TypeId) : Prop := w.heap[b]? = some (.cells c t (0, 0))
theorem aC.lt (h : aC w b c t) : b < w.heap.size := by
 unfold aC at h;exact (Array.getElem?_eq_some_iff.1 h).1
theorem aC.ext (h : aC w b c t) (hb : Below w.heap.size w w') : aC w' b c t :=
 (hb.block b h.lt).trans h
theorem aC.below {B : Nat} (h : aC w b c t) (hb : Below B w w') (hB : b < B) : aC w' b c t :=
 (hb.block b hB).trans h
theorem aC.alloc (h : aC w b c t) (o : Obj) : aC (w.alloc o) b c t :=
 (Below.heap_alloc w o b h.lt).trans h
theorem aC.new (w : World) (c : Array Value) (t : TypeId) : aC (w.alloc (.cells c t)) w.heap.size c t := heap_alloc_new w _
theorem aC.new' (c : Array Value) (t : TypeId) (hb : b = w.heap.size) : aC (w.alloc (.cells c t)) b c t := hb ▸ heap_alloc_new w _
theorem aC.setCell (h : aC w b c t) {p : Addr} (hp : b ≠ p.block) (v : Value) : aC (w.setCell p v) b c t :=
 (heap_setCell_other w p b v hp).trans h
theorem aC.drew (h : aC w b c t) : aC w.drew b c t := h
theorem aC.cell (h : aC w b c t) (o : Nat) : w.cell? ⟨b, o, none⟩ = c[o]? := cell_of_row w b o c t _ h
theorem aC.free (h : aC w b c t) (o : Nat) : w.frozen? ⟨b, o, none⟩ = false := frozen_of_row w b o c t h
theorem aj {a b c : World} (h : Below a.heap.size a b) (k : Below b.heap.size b c) : Below a.heap.size a c := h.trans (k.mono h.size)
theorem ae {a b : World} (h : Below a.heap.size a b) (o : Obj) : Below a.heap.size a (b.alloc o) := h.alloc h.size o
theorem dU {ops : Array Oper} {rest : List Oper} {dst : Option Tmp} {x y : Operand} {ty τ : TypeId} {pos : String} {after : Array Edge} {a : Act} {w0 : World} {c : Array Value} {Q : Exit → Act → World → Prop}
  (cells : Array Value) (hx : a.eval x = .pointer (some ⟨w0.heap.size, 0, none⟩)) (hy : a.eval y = .agg cells)
  (hi : (Try.prog.info? ty).map (·.size) = some cells.size) (hc : c.size = cells.size) (h1 : cells.all (·.oneCell') = true)
  (h : wpList Try.prog ops Q rest (a.put dst undef) (w0.alloc (.cells cells ty))) :
  wpList Try.prog ops Q ({ dst := dst, op := .store ty x y, type := τ, pos := pos, after := after, guard := none } :: rest) a (w0.alloc (.cells c ty)) :=
 wpList_plain rfl fun _ hK => by
  unfold Oper.wp execOp;simp only [hx, hy, Instr.storeAt, Instr.sureAddr, Sem.run_bind, Sem.run_pure, Result.andThen_ok, run_storeVar_new (P := Try.prog) w0 ty c cells hi hc h1];exact hK _ _ h
theorem gQ {ops : Array Oper} {rest : List Oper} {dst : Option Tmp} {x : Operand} {ty τ : TypeId} {pos : String} {after : Array Edge} {a : Act} {w : World} {Q : Exit → Act → World → Prop}
  (g : Nat) (cs : Array Value) (d : TypeDesc) (hx : a.eval x = .pointer (some ⟨g, 0, none⟩)) (hg : aC w g cs ty)
  (hu : Try.prog.underlying ty = some d) (hd : d.isRow = true) (hi : (Try.prog.info? ty).map (·.size) = some cs.size)
  (h : wpList Try.prog ops Q rest (a.put dst (.agg cs)) w) :
  wpList Try.prog ops Q ({ dst := dst, op := .load ty x, type := τ, pos := pos, after := after, guard := none } :: rest) a w :=
 wpList_load_row (o := { dst := dst, op := .load ty x, type := τ, pos := pos, after := after, guard := none }) rfl ty x rfl g hx ty cs (0, 0) d hg hu (by cases d <;> simp_all [TypeDesc.isRow]) hi h
theorem bH {ops : Array Oper} {rest : List Oper} {dst : Option Tmp} {parts : Array (Nat × Operand)} {ty τ : TypeId} {pos : String} {after : Array Edge} {a : Act} {w : World} {Q : Exit → Act → World → Prop}
  (cells : Array Value) (hb : Try.prog.built ty (parts.map fun (i, x) => (i, a.eval x)).toList = some cells)
  (h : wpList Try.prog ops Q rest (a.put dst (.agg cells)) w) :
  wpList Try.prog ops Q ({ dst := dst, op := .build ty parts, type := τ, pos := pos, after := after, guard := none } :: rest) a w :=
 wpList_build (o := { dst := dst, op := .build ty parts, type := τ, pos := pos, after := after, guard := none }) rfl ty parts rfl (by rw [hb]; rfl) (by rw [hb]; exact h)
theorem az {fn : Func} {p : Tmp} {ty : TypeId} (hr : fn.results = #[.cell p ty]) {post : Ending → World → Prop} {a : Act} {w : World} (g : Nat) (cs : Array Value) (d : TypeDesc)
  (hp : a.tmps.getD p undef = .pointer (some ⟨g, 0, none⟩)) (hd : a.defers = []) (hg : aC w g cs ty)
  (hu : Try.prog.underlying ty = some d) (hrow : d.isRow = true) (hi : (Try.prog.info? ty).map (·.size) = some cs.size) (h : post (.returned (.agg cs)) w) :
  bodyPost Try.prog fn post .ret a w :=
 bodyPost_ret (v := .agg cs) (results_cell_row hr _ w g ty cs (0, 0) d hp hg hu (by cases d <;> simp_all [TypeDesc.isRow]) hi) hd h
theorem ah {ops : Array Oper} {rest : List Oper} {dst : Option Tmp} {x : Operand} {τ : TypeId} {pos : String} {after : Array Edge} {a : Act} {w : World} {Q : Exit → Act → World → Prop}
  (g : Nat) (cs : Array Value) (hs : cs.size = 18) (hx : a.eval x = .pointer (some ⟨g, 0, none⟩)) (hg : aC w g cs 31)
  (h : wpList Try.prog ops Q rest (a.put dst (.agg cs)) w) :
  wpList Try.prog ops Q ({ dst := dst, op := .load 31 x, type := τ, pos := pos, after := after, guard := none } :: rest) a w :=
 gQ g cs _ hx hg Try.underlying31 rfl (by rw [hs]; kernel_rfl) h
theorem dI {ops : Array Oper} {rest : List Oper} {dst : Option Tmp} {x y : Operand} {τ : TypeId} {pos : String} {after : Array Edge} {a : Act} {w0 : World} {c : Array Value} {Q : Exit → Act → World → Prop}
  (cells : Array Value) (hs : cells.size = 18) (hx : a.eval x = .pointer (some ⟨w0.heap.size, 0, none⟩)) (hy : a.eval y = .agg cells) (hc : c.size = 18) (h1 : cells.all (·.oneCell') = true)
  (h : wpList Try.prog ops Q rest (a.put dst undef) (w0.alloc (.cells cells 31))) :
  wpList Try.prog ops Q ({ dst := dst, op := .store 31 x y, type := τ, pos := pos, after := after, guard := none } :: rest) a (w0.alloc (.cells c 31)) :=
 dU cells hx hy (by rw [hs]; kernel_rfl) (by rw [hc, hs]) h1 h
abbrev Sl := Int × ByteArray
def cO (w : World) (a : Option Addr) (l : List Sl) : Prop :=
 ∀ i s, l[i]? = some s → ∃ b off, a = some ⟨b, off, none⟩ ∧ b < w.heap.size ∧ w.cell? ⟨b, off + i * 2, none⟩ = some (.int .i64 s.1) ∧ w.cell? ⟨b, off + i * 2 + 1, none⟩ = some (.string s.2) ∧ s.2.size ≤ maxLen ∧ (Lit.int .i64 s.1).wf = true
variable {l : List Sl}
theorem cO.ext {a : Option Addr} (h : cO w a l) (hb : Below w.heap.size w w') : cO w' a l := fun i s hs => by
 obtain ⟨b, off, ha, hlt, c0, c1, r⟩ := h i s hs;exact ⟨b, off, ha, Nat.lt_of_lt_of_le hlt hb.size, (hb.cell (p := ⟨b, off + i * 2, none⟩) hlt).trans c0, (hb.cell (p := ⟨b, off + i * 2 + 1, none⟩) hlt).trans c1, r⟩
def dL (s : Sl) : Bool := inB s.1 0 1000000 && decide ((s.2.size : Int) ≤ 100) && (!decide (s.1 = 0) || s.2.toList.isEmpty)
def bM (l : List Sl) : Bool := decide (l.length ≤ 60) && l.all dL
theorem BR {t : ByteArray} (h : t.toList.isEmpty = true) : t.size = 0 := by
 rw [ByteArray.toList_eq, List.isEmpty_iff] at h;have := congrArg List.length h;simpa using this
theorem zo (t : ByteArray) : dL (0, t) = t.toList.isEmpty := by
 cases h : t.toList.isEmpty
 ·simp [dL, h]
 simp [dL, h, inB, BR h]
theorem Bc {b : Int} (t : ByteArray) (hb : ¬ b = 0) : dL (b, t) = (inB b 1 1000000 && decide ((t.size : Int) ≤ 100)) := by
 have : inB b 0 1000000 = inB b 1 1000000 := by
  rw [Bool.eq_iff_iff, bK, bK]; omega
 simp [dL, hb, this]
theorem Hr {f : Sl → Bool} {n : Nat} (hn : l.length = n) (h : ∀ (i : Nat) s, i < n → l[i]? = some s → f s = true) : l.all f = true := by
 rw [List.all_eq_true];intro s hs;obtain ⟨i, hi, rfl⟩ := List.getElem_of_mem hs;exact h i _ (by omega) (List.getElem?_eq_getElem hi)
theorem oZ {f : Sl → Bool} {k : Nat} {s : Sl} (hs : l[k]? = some s) (h : f s = false) : l.all f = false := by
 rw [List.all_eq_false];exact ⟨s, List.mem_of_getElem? hs, by simp [h]⟩
theorem wP (b : Int) (t : ByteArray) (w : World) (ht : t.size ≤ maxLen) :
  Calls Try.prog 76 #[.agg #[.int .i64 b, .string t]] w fun e w' => e = .returned (.bool (dL (b, t))) ∧ w' = w.alloc (.cells #[.int .i64 b, .string t] 43) := by
 unfold maxLen at ht;by_cases hb : b = 0
 ·subst hb;rw [zo];go_enter Try.func76, Try.ntmps76;go_wp2;go_ret;exact ⟨rfl, rfl⟩
 have hb' : (b == 0) = false := beq_eq_false_iff_ne.2 hb;rw [Bc t hb];cases h1 : inB b 1 1000000
 ·go_enter Try.func76, Try.ntmps76;go_wp2_with (go_at_call 46; refine (cZ _ _ _ _).mono ?_; rintro e w' ⟨rfl, rfl⟩);go_ret;exact ⟨rfl, rfl⟩
 go_enter Try.func76, Try.ntmps76;go_wp2_with (go_at_call 46; refine (cZ _ _ _ _).mono ?_; rintro e w' ⟨rfl, rfl⟩);go_ret;exact ⟨by simp, rfl⟩
theorem dH (a : Option Addr) (l : List Sl) (n cap : Nat) (w : World) (hn : l.length = n) (hc : n ≤ maxLen) (h : cO w a l) :
  Calls Try.prog 48 #[.slice a n cap] w fun e w' => e = .returned (.bool (bM l)) ∧ Below w.heap.size w w' := by
 unfold maxLen at hc;have HL : Hid (l.length = n) := hn;clear hn;by_cases hz : n ≤ 60
 ·have HA : Hid (bM l = l.all dL) := by unfold Hid bM; rw [HL.out]; simp [hz]
  go_enter Try.func48, Try.ntmps48;go_wp2;go_loopw [10] (fun i wr => ∃ (k : Nat), k ≤ n ∧ i = .int .i64 k ∧ (∀ (i : Nat) s, i < k → l[i]? = some s → dL s = true) ∧ Below w.heap.size w wr) (fun i _ => n - (intOf i).toNat);case atStart => exact ⟨0, Nat.zero_le _, rfl, fun i s hi => absurd hi (by omega), Below.refl _ _⟩
  obtain ⟨k, hk, rfl, hall0, hbel⟩ := hrel;have hall : Hid (∀ (i : Nat) s, i < k → l[i]? = some s → dL s = true) := hall0;clear hall0;by_cases hlt : k < n
  ·obtain ⟨s, hs0⟩ : ∃ s, l[k]? = some s := ⟨_, List.getElem?_eq_getElem (by rw [HL.out]; exact hlt)⟩
   obtain ⟨b, off, rfl, hb, c0, c1, ht, _⟩ := (h.ext hbel) k s hs0;have hs : Hid (l[k]? = some s) := hs0;clear hs0;obtain ⟨sb, st⟩ := s;cases hok : dL (sb, st)
   ·go_wp2_with (go_at_call 76; refine (wP _ _ _ ht).mono ?_; rintro e w' ⟨rfl, rfl⟩);go_ret;exact ⟨by rw [HA.out, oZ hs.out hok]; rfl, ae (ae hbel _) _⟩
   go_wp2_with (go_at_call 76; refine (wP _ _ _ ht).mono ?_; rintro e w' ⟨rfl, rfl⟩);go_roundw;case rel =>
    refine ⟨k + 1, by omega, by go_num, fun i u hi hu => ?_, ae (ae hbel _) _⟩;by_cases he : i = k
    ·subst he; rw [hs.out] at hu; simp only [Option.some.injEq] at hu; rw [← hu]; exact hok
    exact hall.out i u (by omega) hu
   case measure => simp [intOf]; omega
  go_wp2;go_ret;exact ⟨by rw [HA.out, Hr HL.out (fun i s hi hs => hall.out i s (by omega) hs)]; rfl, hbel⟩
 have HA : Hid (bM l = false) := by unfold Hid bM; rw [HL.out]; simp [hz]
 go_enter Try.func48, Try.ntmps48;go_wp2;go_ret;exact ⟨by rw [HA.out]; rfl, Below.refl _ _⟩
theorem Ci (b : Int) (t : ByteArray) :
  (inB b 0 1000000 = false ∧ dL (b, t) = false) ∨ (inB b 0 1000000 = true ∧ (100 : Int) < (t.size : Int) ∧ dL (b, t) = false) ∨
  (inB b 0 1000000 = true ∧ (t.size : Int) ≤ 100 ∧ b = 0 ∧ t.toList.isEmpty = false ∧ dL (b, t) = false) ∨
  (inB b 0 1000000 = true ∧ (t.size : Int) ≤ 100 ∧ b = 0 ∧ t.toList.isEmpty = true ∧ dL (b, t) = true) ∨
  (inB b 0 1000000 = true ∧ (t.size : Int) ≤ 100 ∧ (b == 0) = false ∧ dL (b, t) = true) := by
 cases h1 : inB b 0 1000000
 ·exact .inl ⟨rfl, by simp [dL, h1]⟩
 by_cases h2 : (t.size : Int) ≤ 100
 ·by_cases h3 : b = 0
  ·cases h4 : t.toList.isEmpty
   ·exact .inr (.inr (.inl ⟨rfl, h2, h3, rfl, by simp [dL, h1, h3, h4]⟩))
   exact .inr (.inr (.inr (.inl ⟨rfl, h2, h3, rfl, by simp [dL, h1, h2, h4]⟩)))
  exact .inr (.inr (.inr (.inr ⟨rfl, h2, beq_eq_false_iff_ne.2 h3, by simp [dL, h1, h2, h3]⟩)))
 exact .inr (.inl ⟨rfl, by omega, by simp [dL, h2]⟩)
theorem fD (a : Option Addr) (l : List Sl) (n cap : Nat) (w : World) (hn : l.length = n) (hc : n ≤ maxLen) (h : cO w a l) :
  Calls Try.prog 40 #[.slice a n cap] w fun e w' => e = .returned (.bool (bM l)) ∧ w' = w := by
 unfold maxLen at hc;have HL : Hid (l.length = n) := hn;clear hn;by_cases hz : n ≤ 60
 ·have HA : Hid (bM l = l.all dL) := by unfold Hid bM; rw [HL.out]; simp [hz]
  go_enter Try.func40, Try.ntmps40;go_wp2
  go_loop [3] (fun i => ∃ (k : Nat), k ≤ n ∧ i = .int .i64 k ∧ (∀ (i : Nat) s, i < k → l[i]? = some s → dL s = true)) (fun i => n - (intOf i).toNat)
  case atStart => exact ⟨0, Nat.zero_le _, rfl, fun i s hi => absurd hi (by omega)⟩
  obtain ⟨k, hk, rfl, hall0⟩ := hrel;have hall : Hid (∀ (i : Nat) s, i < k → l[i]? = some s → dL s = true) := hall0;clear hall0;by_cases hlt : k < n
  ·obtain ⟨s, hs0⟩ : ∃ s, l[k]? = some s := ⟨_, List.getElem?_eq_getElem (by rw [HL.out]; exact hlt)⟩
   obtain ⟨b, off, rfl, hb, c0, c1, ht, _⟩ := h k s hs0;unfold maxLen at ht;have hs : Hid (l[k]? = some s) := hs0;clear hs0;obtain ⟨sb, st⟩ := s;simp only at c0 c1 ht;rcases Ci sb st with ⟨g1, hok⟩ | ⟨g1, g2, hok⟩ | ⟨g1, g2, g3, g4, hok⟩ | ⟨g1, g2, g3, g4, hok⟩ | ⟨g1, g2, g3, hok⟩
   ·have HK : Hid (dL (sb, st) = false) := hok;clear hok;go_wp2_with (go_at_call 37; refine (bF _ _ _ _).mono ?_; rintro e w' ⟨rfl, rfl⟩);go_ret;exact ⟨by rw [HA.out, oZ hs.out HK.out]; rfl, rfl⟩
   ·have HK : Hid (dL (sb, st) = false) := hok;clear hok;go_wp2_with (go_at_call 37; refine (bF _ _ _ _).mono ?_; rintro e w' ⟨rfl, rfl⟩);go_ret;exact ⟨by rw [HA.out, oZ hs.out HK.out]; rfl, rfl⟩
   ·have HK : Hid (dL (sb, st) = false) := hok;clear hok;subst g3;go_wp2_with (go_at_call 37; refine (bF _ _ _ _).mono ?_; rintro e w' ⟨rfl, rfl⟩);go_ret;exact ⟨by rw [HA.out, oZ hs.out HK.out]; rfl, rfl⟩
   ·have HK : Hid (dL (sb, st) = true) := hok;clear hok;subst g3;go_wp2_with (go_at_call 37; refine (bF _ _ _ _).mono ?_; rintro e w' ⟨rfl, rfl⟩)
    go_round
    case rel =>
     refine ⟨k + 1, by omega, by go_num, fun i u hi hu => ?_⟩;by_cases he : i = k
     ·subst he; rw [hs.out] at hu; simp only [Option.some.injEq] at hu; rw [← hu]; exact HK.out
     exact hall.out i u (by omega) hu
    case measure => simp [intOf]; omega
   have HK : Hid (dL (sb, st) = true) := hok;clear hok;go_wp2_with (go_at_call 37; refine (bF _ _ _ _).mono ?_; rintro e w' ⟨rfl, rfl⟩)
   go_round
   case rel =>
    refine ⟨k + 1, by omega, by go_num, fun i u hi hu => ?_⟩;by_cases he : i = k
    ·subst he; rw [hs.out] at hu; simp only [Option.some.injEq] at hu; rw [← hu]; exact HK.out
    exact hall.out i u (by omega) hu
   case measure => simp [intOf]; omega
  go_wp2;go_ret;exact ⟨by rw [HA.out, Hr HL.out (fun i s hi hs => hall.out i s (by omega) hs)]; rfl, rfl⟩
 have HA : Hid (bM l = false) := by unfold Hid bM; rw [HL.out]; simp [hz]
 go_enter Try.func40, Try.ntmps40;go_wp2;go_ret;exact ⟨by rw [HA.out]; rfl, rfl⟩
end Go.Proofs.Ytjdceoimignnpaa
