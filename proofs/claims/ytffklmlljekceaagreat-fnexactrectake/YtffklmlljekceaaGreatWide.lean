/-
  Wide structs (a recorder is 18 cells): a whole struct into the block that was made last, by one law; what stays of a block behind a call.
-/
import Derived.Test.YtffklmlljekceaaGreatBase
import Derived.Deep.WholeRow
import Derived.Deep.MidRow
import Derived.Laws.Tables
namespace Go.Proofs.YtffklmlljekceaaGreat
open Go.ChangeShapes Go.WideShapes Go.ChangeAt Go.RowKit
set_option linter.unusedVariables false
set_option linter.unusedSimpArgs false

/-- a block of cells, none of them frozen -/
abbrev Blk (w : World) (b : Nat) (c : Array Value) (t : TypeId) : Prop := w.heap[b]? = some (.cells c t (0, 0))

theorem Blk.lt {w : World} {b : Nat} {c : Array Value} {t : TypeId} (h : Blk w b c t) : b < w.heap.size := by
  unfold Blk at h
  exact (Array.getElem?_eq_some_iff.1 h).1
theorem Blk.ext {w w' : World} {b : Nat} {c : Array Value} {t : TypeId} (h : Blk w b c t) (hb : Below w.heap.size w w') : Blk w' b c t :=
  (hb.block b h.lt).trans h
theorem Blk.below {B : Nat} {w w' : World} {b : Nat} {c : Array Value} {t : TypeId} (h : Blk w b c t) (hb : Below B w w') (hB : b < B) : Blk w' b c t :=
  (hb.block b hB).trans h
theorem Blk.alloc {w : World} {b : Nat} {c : Array Value} {t : TypeId} (h : Blk w b c t) (o : Obj) : Blk (w.alloc o) b c t :=
  (Below.heap_alloc w o b h.lt).trans h
theorem Blk.new (w : World) (c : Array Value) (t : TypeId) : Blk (w.alloc (.cells c t)) w.heap.size c t := heap_alloc_new w _
theorem Blk.new' {w : World} {b : Nat} (c : Array Value) (t : TypeId) (hb : b = w.heap.size) : Blk (w.alloc (.cells c t)) b c t := hb ▸ heap_alloc_new w _
theorem Blk.setCell {w : World} {b : Nat} {c : Array Value} {t : TypeId} (h : Blk w b c t) {p : Addr} (hp : b ≠ p.block) (v : Value) : Blk (w.setCell p v) b c t :=
  (heap_setCell_other w p b v hp).trans h
theorem Blk.drew {w : World} {b : Nat} {c : Array Value} {t : TypeId} (h : Blk w b c t) : Blk w.drew b c t := h
theorem Blk.cell {w : World} {b : Nat} {c : Array Value} {t : TypeId} (h : Blk w b c t) (o : Nat) : w.cell? ⟨b, o, none⟩ = c[o]? := cell_of_row w b o c t _ h
theorem Blk.free {w : World} {b : Nat} {c : Array Value} {t : TypeId} (h : Blk w b c t) (o : Nat) : w.frozen? ⟨b, o, none⟩ = false := frozen_of_row w b o c t h

theorem ext_trans {a b c : World} (h : Below a.heap.size a b) (k : Below b.heap.size b c) : Below a.heap.size a c := h.trans (k.mono h.size)
theorem ext_alloc {a b : World} (h : Below a.heap.size a b) (o : Obj) : Below a.heap.size a (b.alloc o) := h.alloc h.size o

/-- a whole struct into the block that was made last -/
theorem wpList_store_last {ops : Array Oper} {rest : List Oper} {dst : Option Tmp} {x y : Operand} {ty τ : TypeId} {pos : String} {after : Array Edge} {a : Act} {w0 : World} {c : Array Value} {Q : Exit → Act → World → Prop}
    (cells : Array Value) (hx : a.eval x = .pointer (some ⟨w0.heap.size, 0, none⟩)) (hy : a.eval y = .agg cells)
    (hi : (Tryz.prog.info? ty).map (·.size) = some cells.size) (hc : c.size = cells.size) (h1 : cells.all (·.oneCell') = true)
    (h : wpList Tryz.prog ops Q rest (a.put dst undef) (w0.alloc (.cells cells ty))) :
    wpList Tryz.prog ops Q ({ dst := dst, op := .store ty x y, type := τ, pos := pos, after := after, guard := none } :: rest) a (w0.alloc (.cells c ty)) :=
  wpList_plain rfl fun _ hK => by
    unfold Oper.wp execOp
    simp only [hx, hy, Instr.storeAt, Instr.sureAddr, Sem.run_bind, Sem.run_pure, Result.andThen_ok, run_storeVar_new (P := Tryz.prog) w0 ty c cells hi hc h1]
    exact hK _ _ h

/-- a whole struct out of a block -/
theorem wpList_load_blk {ops : Array Oper} {rest : List Oper} {dst : Option Tmp} {x : Operand} {ty τ : TypeId} {pos : String} {after : Array Edge} {a : Act} {w : World} {Q : Exit → Act → World → Prop}
    (g : Nat) (cs : Array Value) (d : TypeDesc) (hx : a.eval x = .pointer (some ⟨g, 0, none⟩)) (hg : Blk w g cs ty)
    (hu : Tryz.prog.underlying ty = some d) (hd : d.isRow = true) (hi : (Tryz.prog.info? ty).map (·.size) = some cs.size)
    (h : wpList Tryz.prog ops Q rest (a.put dst (.agg cs)) w) :
    wpList Tryz.prog ops Q ({ dst := dst, op := .load ty x, type := τ, pos := pos, after := after, guard := none } :: rest) a w :=
  wpList_load_row (o := { dst := dst, op := .load ty x, type := τ, pos := pos, after := after, guard := none }) rfl ty x rfl g hx ty cs (0, 0) d hg hu (by cases d <;> simp_all [TypeDesc.isRow]) hi h

/-- a struct is built, its cells told -/
theorem wpList_build_to {ops : Array Oper} {rest : List Oper} {dst : Option Tmp} {parts : Array (Nat × Operand)} {ty τ : TypeId} {pos : String} {after : Array Edge} {a : Act} {w : World} {Q : Exit → Act → World → Prop}
    (cells : Array Value) (hb : Tryz.prog.built ty (parts.map fun (i, x) => (i, a.eval x)).toList = some cells)
    (h : wpList Tryz.prog ops Q rest (a.put dst (.agg cells)) w) :
    wpList Tryz.prog ops Q ({ dst := dst, op := .build ty parts, type := τ, pos := pos, after := after, guard := none } :: rest) a w :=
  wpList_build (o := { dst := dst, op := .build ty parts, type := τ, pos := pos, after := after, guard := none }) rfl ty parts rfl (by rw [hb]; rfl) (by rw [hb]; exact h)

/-- a function whose one result is a struct in a cell of its own returns -/
theorem ret_cell {fn : Func} {p : Tmp} {ty : TypeId} (hr : fn.results = #[.cell p ty]) {post : Ending → World → Prop} {a : Act} {w : World} (g : Nat) (cs : Array Value) (d : TypeDesc)
    (hp : a.tmps.getD p undef = .pointer (some ⟨g, 0, none⟩)) (hd : a.defers = []) (hg : Blk w g cs ty)
    (hu : Tryz.prog.underlying ty = some d) (hrow : d.isRow = true) (hi : (Tryz.prog.info? ty).map (·.size) = some cs.size) (h : post (.returned (.agg cs)) w) :
    bodyPost Tryz.prog fn post .ret a w :=
  bodyPost_ret (v := .agg cs) (results_cell_row hr _ w g ty cs (0, 0) d hp hg hu (by cases d <;> simp_all [TypeDesc.isRow]) hi) hd h

/-- a recorder out of its block -/
theorem wpList_load_rec {ops : Array Oper} {rest : List Oper} {dst : Option Tmp} {x : Operand} {τ : TypeId} {pos : String} {after : Array Edge} {a : Act} {w : World} {Q : Exit → Act → World → Prop}
    (g : Nat) (cs : Array Value) (hs : cs.size = 18) (hx : a.eval x = .pointer (some ⟨g, 0, none⟩)) (hg : Blk w g cs 41)
    (h : wpList Tryz.prog ops Q rest (a.put dst (.agg cs)) w) :
    wpList Tryz.prog ops Q ({ dst := dst, op := .load 41 x, type := τ, pos := pos, after := after, guard := none } :: rest) a w :=
  wpList_load_blk g cs _ hx hg Tryz.underlying41 rfl (by rw [hs]; kernel_rfl) h

/-- a recorder into the block that was made last -/
theorem wpList_store_rec {ops : Array Oper} {rest : List Oper} {dst : Option Tmp} {x y : Operand} {τ : TypeId} {pos : String} {after : Array Edge} {a : Act} {w0 : World} {c : Array Value} {Q : Exit → Act → World → Prop}
    (cells : Array Value) (hs : cells.size = 18) (hx : a.eval x = .pointer (some ⟨w0.heap.size, 0, none⟩)) (hy : a.eval y = .agg cells) (hc : c.size = 18) (h1 : cells.all (·.oneCell') = true)
    (h : wpList Tryz.prog ops Q rest (a.put dst undef) (w0.alloc (.cells cells 41))) :
    wpList Tryz.prog ops Q ({ dst := dst, op := .store 41 x y, type := τ, pos := pos, after := after, guard := none } :: rest) a (w0.alloc (.cells c 41)) :=
  wpList_store_last cells hx hy (by rw [hs]; kernel_rfl) (by rw [hc, hs]) h1 h
end Go.Proofs.YtffklmlljekceaaGreat
