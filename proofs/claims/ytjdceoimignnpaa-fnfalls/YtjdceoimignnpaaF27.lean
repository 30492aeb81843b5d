import Derived.Test.YtjdceoimignnpaaF06
namespace Go.Proofs.Ytjdceoimignnpaa
open Go.ChangeShapes Go.WideShapes Go.ChangeAt Go.RowKit Go.Deep Go.Joins
set_option linter.unusedVariables false
set_option linter.unusedSimpArgs false
set_option maxHeartbeats 40000000
set_option maxRecDepth 20000
variable {b : Nat} {w w' : World}
/-- the recorders l lie behind the address a -/
def zl (w : World) (a : Option Addr) (l : List Rc) : Prop :=
 ∀ (i : Nat) r, l[i]? = some r → ∃ b off p, a = some ⟨b, off, none⟩ ∧ b < w.heap.size ∧ w.rangeAt b (off + i * 18) (au r p).toList ∧ oL w r p
theorem kU {o : Nat} {cs : List Value} (h : w.rangeAt b o cs) (hb : Below w.heap.size w w') (hlt : b < w.heap.size) : w'.rangeAt b o cs := fun j v hv =>
 (hb.cell (p := ⟨b, o + j, none⟩) hlt).trans (h j v hv)
theorem zl.ext {a : Option Addr} {l : List Rc} (h : zl w a l) (hb : Below w.heap.size w w') : zl w' a l := fun i r hr => by
 obtain ⟨b, off, p, ha, hlt, hc, hR⟩ := h i r hr;exact ⟨b, off, p, ha, Nat.lt_of_lt_of_le hlt hb.size, kU hc hb hlt, hR.ext hb⟩
def DF (l : List Rc) : Prop := ∀ (i : Nat) r, l[i]? = some r → bD r
/-- an impl.Recorder out of the middle of a block -/
theorem iQ {ops : Array Oper} {rest : List Oper} {dst : Option Tmp} {x : Operand} {τ : TypeId} {pos : String} {after : Array Edge} {a : Act} {w : World} {Q : Exit → Act → World → Prop}
  (b o : Nat) (cs : Array Value) (hs : cs.size = 18) (hx : a.eval x = .pointer (some ⟨b, o, none⟩)) (hg : w.rangeAt b o cs.toList)
  (h : wpList Try.prog ops Q rest (a.put dst (.agg cs)) w) :
  wpList Try.prog ops Q ({ dst := dst, op := .load 31 x, type := τ, pos := pos, after := after, guard := none } :: rest) a w :=
 wpList_load_mid (op := { dst := dst, op := .load 31 x, type := τ, pos := pos, after := after, guard := none }) rfl 31 x rfl b o hx cs.toList _ hg Try.underlying31 rfl (by rw [Array.length_toList, hs]; kernel_rfl) (by rw [Array.toArray_toList]; exact h)
/-- an impl.Recorder into the middle of a block -/
theorem ut {ops : Array Oper} {rest : List Oper} {dst : Option Tmp} {x y : Operand} {τ : TypeId} {pos : String} {after : Array Edge} {a : Act} {w : World} {Q : Exit → Act → World → Prop}
  (b o : Nat) (cells : Array Value) (hs : cells.size = 18) (hx : a.eval x = .pointer (some ⟨b, o, none⟩)) (hy : a.eval y = .agg cells) (ht : w.there b o 18) (h1 : cells.all (·.oneCell') = true)
  (h : wpList Try.prog ops Q rest (a.put dst undef) (w.setCells b o cells.toList)) :
  wpList Try.prog ops Q ({ dst := dst, op := .store 31 x y, type := τ, pos := pos, after := after, guard := none } :: rest) a w :=
 wpList_store_mid (op := { dst := dst, op := .store 31 x y, type := τ, pos := pos, after := after, guard := none }) rfl 31 x y rfl b o cells hx hy (by rw [hs]; exact ht) (by rw [hs]; kernel_rfl) h1 h
theorem pI (r : Rc) (p : fU) : (au r p).all (·.oneCell') = true := by simp [Value.oneCell']
theorem jo (b : Nat) : ∀ (vs : List Value) (o : Nat) (w : World) (i : Nat), i ≠ b → (w.setCells b o vs).heap[i]? = w.heap[i]?
 | [], _, _, _, _ => by simp [World.setCells]
 | v :: r, o, w, i, h => by
  rw [World.setCells];exact (jo b r (o + 1) _ i h).trans (heap_setCell_other w ⟨b, o, none⟩ i v h)
theorem below_setCells {B : Nat} (h : Below B w w') (b : Nat) (hb : B ≤ b) : ∀ (vs : List Value) (o : Nat), Below B w (w'.setCells b o vs) := fun vs => by
 induction vs generalizing w' with
 | nil => intro o; simpa [World.setCells] using h
 | cons v r ih =>
  intro o;rw [World.setCells];exact ih (h.setCell hb v) (o + 1)
theorem aC.there {C : Array Value} {t : TypeId} (h : aC w b C t) {o n : Nat} (hs : o + n ≤ C.size) : w.there b o n := fun j hj =>
 ⟨by rw [h.cell, Array.getElem?_eq_getElem (by omega)]; rfl, h.free _⟩
theorem Jd : (Try.prog.info? 31).map (fun i => (i.zero, i.size, i.bytes)) = some (some (.agg bP), 18, 248) := by kernel_rfl
def zk : Array Value := bP


/-- a world's data -/
structure Wd where
 recs : List Rc
 fl : List Ms
 fx : List Sl
/-- where its lists lie -/
structure kV where
 aR : Option Addr
 cR : Nat
 aF : Option Addr
 cF : Nat
 aX : Option Addr
 cX : Nat
abbrev bQ (d : Wd) (p : kV) : Array Value := #[.slice p.aR d.recs.length p.cR, .slice p.aF d.fl.length p.cF, .slice p.aX d.fx.length p.cX]
structure Ef (w : World) (d : Wd) (p : kV) : Prop where
 hR : zl w p.aR d.recs
 lR : d.recs.length ≤ maxLen
 hF : jB w p.aF d.fl
 lF : d.fl.length ≤ maxLen
 hX : cO w p.aX d.fx
 lX : d.fx.length ≤ maxLen
theorem Ef.ext {d : Wd} {p : kV} (h : Ef w d p) (hb : Below w.heap.size w w') : Ef w' d p :=
 ⟨h.hR.ext hb, h.lR, h.hF.ext hb, h.lF, h.hX.ext hb, h.lX⟩
structure uC (d : Wd) : Prop where
 lR : d.recs.length ≤ 1048576
 nR : DF d.recs
 lF : d.fl.length ≤ 1048576
 nF : jw d.fl
 lX : d.fx.length ≤ 1048576
theorem Nh (r : Rc) (p : fU) (w : World) (hW : Hid (r.wish.length ≤ p.cW)) (h : oL w r p) (hNot : Hid (¬ ((inB r.of_ 1 5 && inB r.num 1 r.of_) = true ∧ bW r.sp r.sk r.ss = true ∧ bW r.dp r.dk r.ds = true))) :
  Calls Try.prog 12 #[.agg (au r p)] w fun e w' => e = .returned (.bool (bf r)) ∧ Below w.heap.size w w' := by
 have hB : Below w.heap.size w (w.alloc (.cells (au r p) 31)) := ae (Below.refl _ _) _;have hR := h.ext hB;have hK0 : mG (w.alloc (.cells (au r p) 31)) w.heap.size r p (w.alloc (.cells (au r p) 31)) := ⟨aC.new w (au r p) 31, Below.refl _ _⟩
 clear h;go_enter Try.func12, Try.ntmps12;go_wp2_with fail;simp only [List.append_eq, List.cons_append, List.nil_append];refine wp_region_held_drew (S := mG (w.alloc (.cells (au r p) 31)) w.heap.size r p) (by kernel_rfl) hK0.drew (fun q9 => ?_);clear hK0;simp only [qz, Nat.reduceAdd];refine ag.go [0, 1, 2, 3] ?_;iterate 4 (refine ag.tb q9 ?_; try simp only [qq])
 refine ag.fin ?_;by_cases g0' : (inB r.of_ 1 5 && inB r.num 1 r.of_) = false
 ·skip
  refine bV 4 fun K hK => ?_
  go_simp;refine (iH _ _ _).mono ?_;rintro e z1 ⟨he, hz1⟩;rw [g0'] at he;subst he;go_wp2_with fail;refine hK.out _ _ (q9.ext hz1) (fun hNew => ?_);clear hK K q9 hz1;have q9 := hNew;clear hNew;try simp only [qq]
  refine ag.go [5, 6, 7, 8, 9, 10, 11, 12, 13, 14, 15, 16, 17, 18, 19, 20, 21, 22, 23, 24, 25, 26, 27, 28, 29, 30, 31, 32, 33, 34, 35, 36, 37, 38, 39, 40, 41, 42, 43, 44, 45, 46, 47, 48, 49, 50, 51, 52, 53, 54, 55, 56, 57, 58, 59, 60, 61, 62, 63, 64, 65, 66, 67, 68, 69, 70, 71] ?_;iterate 1 (refine ag.tb q9 ?_; try simp only [qq])
  iterate 3 (refine ag.sk q9 ?_; try simp only [qq])
  iterate 2 (refine ag.tb q9 ?_; try simp only [qq])
  iterate 3 (refine ag.sk q9 ?_; try simp only [qq])
  iterate 2 (refine ag.tb q9 ?_; try simp only [qq])
  iterate 2 (refine ag.sk q9 ?_; try simp only [qq])
  iterate 2 (refine ag.tb q9 ?_; try simp only [qq])
  iterate 3 (refine ag.sk q9 ?_; try simp only [qq])
  iterate 2 (refine ag.tb q9 ?_; try simp only [qq])
  iterate 3 (refine ag.sk q9 ?_; try simp only [qq])
  iterate 2 (refine ag.tb q9 ?_; try simp only [qq])
  iterate 5 (refine ag.sk q9 ?_; try simp only [qq])
  iterate 2 (refine ag.tb q9 ?_; try simp only [qq])
  iterate 3 (refine ag.sk q9 ?_; try simp only [qq])
  iterate 2 (refine ag.tb q9 ?_; try simp only [qq])
  iterate 5 (refine ag.sk q9 ?_; try simp only [qq])
  iterate 2 (refine ag.tb q9 ?_; try simp only [qq])
  iterate 7 (refine ag.sk q9 ?_; try simp only [qq])
  iterate 2 (refine ag.tb q9 ?_; try simp only [qq])
  iterate 4 (refine ag.sk q9 ?_; try simp only [qq])
  iterate 2 (refine ag.tb q9 ?_; try simp only [qq])
  iterate 6 (refine ag.sk q9 ?_; try simp only [qq])
  iterate 2 (refine ag.tb q9 ?_; try simp only [qq])
  refine ag.fin ?_;refine wpAnyH_done (by kernel_rfl) ?_ _;go_wp2;go_ret;exact ⟨by rw [Ht g0']; rfl, aj hB q9.bel⟩
 have g0 : Hid ((inB r.of_ 1 5 && inB r.num 1 r.of_) = true) := eq_true_of_ne_false g0';clear g0';have hof : Hid (r.of_ ≤ 1000000) := by
  have h9 := g0.out;rw [Bool.and_eq_true] at h9;have := bK.1 h9.1;unfold Hid;omega
 refine bV 4 fun K hK => ?_
 go_simp;refine (iH _ _ _).mono ?_;rintro e z2 ⟨he, hz2⟩;rw [g0.out] at he;subst he;go_wp2_with fail;refine hK.out _ _ (q9.ext hz2) (fun hNew => ?_);clear hK K q9 hz2;have q9 := hNew;clear hNew;try simp only [qq]
 refine ag.go [5, 6, 7] ?_;iterate 3 (refine ag.tb q9 ?_; try simp only [qq])
 refine ag.fin ?_;by_cases g1' : bW r.sp r.sk r.ss = false
 ·skip
  refine bV 8 fun K hK => ?_
  go_simp;refine (dB r.sp r.sk p.aS r.ss _ p.cS _ rfl hR.lS (by exact (hR.ext q9.bel).hS)).mono ?_;rintro e z3 ⟨he, hz3⟩;rw [g1'] at he;subst he;go_wp2_with fail;refine hK.out _ _ (q9.ext hz3) (fun hNew => ?_);clear hK K q9 hz3;have q9 := hNew;clear hNew;try simp only [qq]
  refine ag.go [9, 10, 11, 12, 13, 14, 15, 16, 17, 18, 19, 20, 21, 22, 23, 24, 25, 26, 27, 28, 29, 30, 31, 32, 33, 34, 35, 36, 37, 38, 39, 40, 41, 42, 43, 44, 45, 46, 47, 48, 49, 50, 51, 52, 53, 54, 55, 56, 57, 58, 59, 60, 61, 62, 63, 64, 65, 66, 67, 68, 69, 70, 71] ?_;iterate 2 (refine ag.tb q9 ?_; try simp only [qq])
  iterate 3 (refine ag.sk q9 ?_; try simp only [qq])
  iterate 2 (refine ag.tb q9 ?_; try simp only [qq])
  iterate 2 (refine ag.sk q9 ?_; try simp only [qq])
  iterate 2 (refine ag.tb q9 ?_; try simp only [qq])
  iterate 3 (refine ag.sk q9 ?_; try simp only [qq])
  iterate 2 (refine ag.tb q9 ?_; try simp only [qq])
  iterate 3 (refine ag.sk q9 ?_; try simp only [qq])
  iterate 2 (refine ag.tb q9 ?_; try simp only [qq])
  iterate 5 (refine ag.sk q9 ?_; try simp only [qq])
  iterate 2 (refine ag.tb q9 ?_; try simp only [qq])
  iterate 3 (refine ag.sk q9 ?_; try simp only [qq])
  iterate 2 (refine ag.tb q9 ?_; try simp only [qq])
  iterate 5 (refine ag.sk q9 ?_; try simp only [qq])
  iterate 2 (refine ag.tb q9 ?_; try simp only [qq])
  iterate 7 (refine ag.sk q9 ?_; try simp only [qq])
  iterate 2 (refine ag.tb q9 ?_; try simp only [qq])
  iterate 4 (refine ag.sk q9 ?_; try simp only [qq])
  iterate 2 (refine ag.tb q9 ?_; try simp only [qq])
  iterate 6 (refine ag.sk q9 ?_; try simp only [qq])
  iterate 2 (refine ag.tb q9 ?_; try simp only [qq])
  refine ag.fin ?_;refine wpAnyH_done (by kernel_rfl) ?_ _;go_wp2;go_ret;exact ⟨by rw [JJ g1']; rfl, aj hB q9.bel⟩
 have g1 : Hid (bW r.sp r.sk r.ss = true) := eq_true_of_ne_false g1';clear g1';refine bV 8 fun K hK => ?_
 go_simp;refine (dB r.sp r.sk p.aS r.ss _ p.cS _ rfl hR.lS (by exact (hR.ext q9.bel).hS)).mono ?_;rintro e z4 ⟨he, hz4⟩;rw [g1.out] at he;subst he;go_wp2_with fail;refine hK.out _ _ (q9.ext hz4) (fun hNew => ?_);clear hK K q9 hz4;have q9 := hNew;clear hNew;try simp only [qq]
 refine ag.go [9, 10, 11, 12] ?_;iterate 4 (refine ag.tb q9 ?_; try simp only [qq])
 refine ag.fin ?_;by_cases g2' : bW r.dp r.dk r.ds = false
 ·skip
  refine bV 13 fun K hK => ?_
  go_simp;refine (dB r.dp r.dk p.aD r.ds _ p.cD _ rfl hR.lD (by exact (hR.ext q9.bel).hD)).mono ?_;rintro e z5 ⟨he, hz5⟩;rw [g2'] at he;subst he;go_wp2_with fail;refine hK.out _ _ (q9.ext hz5) (fun hNew => ?_);clear hK K q9 hz5;have q9 := hNew;clear hNew;try simp only [qq]
  refine ag.go [14, 15, 16, 17, 18, 19, 20, 21, 22, 23, 24, 25, 26, 27, 28, 29, 30, 31, 32, 33, 34, 35, 36, 37, 38, 39, 40, 41, 42, 43, 44, 45, 46, 47, 48, 49, 50, 51, 52, 53, 54, 55, 56, 57, 58, 59, 60, 61, 62, 63, 64, 65, 66, 67, 68, 69, 70, 71] ?_;iterate 2 (refine ag.tb q9 ?_; try simp only [qq])
  iterate 2 (refine ag.sk q9 ?_; try simp only [qq])
  iterate 2 (refine ag.tb q9 ?_; try simp only [qq])
  iterate 3 (refine ag.sk q9 ?_; try simp only [qq])
  iterate 2 (refine ag.tb q9 ?_; try simp only [qq])
  iterate 3 (refine ag.sk q9 ?_; try simp only [qq])
  iterate 2 (refine ag.tb q9 ?_; try simp only [qq])
  iterate 5 (refine ag.sk q9 ?_; try simp only [qq])
  iterate 2 (refine ag.tb q9 ?_; try simp only [qq])
  iterate 3 (refine ag.sk q9 ?_; try simp only [qq])
  iterate 2 (refine ag.tb q9 ?_; try simp only [qq])
  iterate 5 (refine ag.sk q9 ?_; try simp only [qq])
  iterate 2 (refine ag.tb q9 ?_; try simp only [qq])
  iterate 7 (refine ag.sk q9 ?_; try simp only [qq])
  iterate 2 (refine ag.tb q9 ?_; try simp only [qq])
  iterate 4 (refine ag.sk q9 ?_; try simp only [qq])
  iterate 2 (refine ag.tb q9 ?_; try simp only [qq])
  iterate 6 (refine ag.sk q9 ?_; try simp only [qq])
  iterate 2 (refine ag.tb q9 ?_; try simp only [qq])
  refine ag.fin ?_;refine wpAnyH_done (by kernel_rfl) ?_ _;go_wp2;go_ret;exact ⟨by rw [GK g2']; rfl, aj hB q9.bel⟩
 have g2 : Hid (bW r.dp r.dk r.ds = true) := eq_true_of_ne_false g2';clear g2';exact absurd ⟨g0.out, g1.out, g2.out⟩ hNot.out
theorem Nw (r : Rc) (p : fU) (w : World) (hW : Hid (r.wish.length ≤ p.cW)) (h : oL w r p) (g0 : Hid ((inB r.of_ 1 5 && inB r.num 1 r.of_) = true)) (g1 : Hid (bW r.sp r.sk r.ss = true)) (g2 : Hid (bW r.dp r.dk r.ds = true)) (hNot : Hid (¬ (fO r.num r.of_ r.held = true ∧ dF r.wish = true ∧ inB r.heard 0 1000000 = true))) :
  Calls Try.prog 12 #[.agg (au r p)] w fun e w' => e = .returned (.bool (bf r)) ∧ Below w.heap.size w w' := by
 have hB : Below w.heap.size w (w.alloc (.cells (au r p) 31)) := ae (Below.refl _ _) _;have hR := h.ext hB;have hK0 : mG (w.alloc (.cells (au r p) 31)) w.heap.size r p (w.alloc (.cells (au r p) 31)) := ⟨aC.new w (au r p) 31, Below.refl _ _⟩
 clear h;go_enter Try.func12, Try.ntmps12;go_wp2_with fail;simp only [List.append_eq, List.cons_append, List.nil_append];refine wp_region_held_drew (S := mG (w.alloc (.cells (au r p) 31)) w.heap.size r p) (by kernel_rfl) hK0.drew (fun q9 => ?_);clear hK0;simp only [qz, Nat.reduceAdd];refine ag.go [0, 1, 2, 3] ?_;iterate 4 (refine ag.tb q9 ?_; try simp only [qq])
 refine ag.fin ?_;have hof : Hid (r.of_ ≤ 1000000) := by
  have h9 := g0.out;rw [Bool.and_eq_true] at h9;have := bK.1 h9.1;unfold Hid;omega
 refine bV 4 fun K hK => ?_
 go_simp;refine (iH _ _ _).mono ?_;rintro e z6 ⟨he, hz6⟩;rw [g0.out] at he;subst he;go_wp2_with fail;refine hK.out _ _ (q9.ext hz6) (fun hNew => ?_);clear hK K q9 hz6;have q9 := hNew;clear hNew;try simp only [qq]
 refine ag.go [5, 6, 7] ?_;iterate 3 (refine ag.tb q9 ?_; try simp only [qq])
 refine ag.fin ?_;refine bV 8 fun K hK => ?_
 go_simp;refine (dB r.sp r.sk p.aS r.ss _ p.cS _ rfl hR.lS (by exact (hR.ext q9.bel).hS)).mono ?_;rintro e z7 ⟨he, hz7⟩;rw [g1.out] at he;subst he;go_wp2_with fail;refine hK.out _ _ (q9.ext hz7) (fun hNew => ?_);clear hK K q9 hz7;have q9 := hNew;clear hNew;try simp only [qq]
 refine ag.go [9, 10, 11, 12] ?_;iterate 4 (refine ag.tb q9 ?_; try simp only [qq])
 refine ag.fin ?_;refine bV 13 fun K hK => ?_
 go_simp;refine (dB r.dp r.dk p.aD r.ds _ p.cD _ rfl hR.lD (by exact (hR.ext q9.bel).hD)).mono ?_;rintro e z8 ⟨he, hz8⟩;rw [g2.out] at he;subst he;go_wp2_with fail;refine hK.out _ _ (q9.ext hz8) (fun hNew => ?_);clear hK K q9 hz8;have q9 := hNew;clear hNew;try simp only [qq]
 refine ag.go [14, 15] ?_;iterate 2 (refine ag.tb q9 ?_; try simp only [qq])
 refine ag.fin ?_;refine wpAnyH_take (i := 16) (ax rfl) (by kernel_rfl) (by kernel_rfl) (by kernel_rfl) (fun _ _ _ h => h) (fC (by rfl) _ rfl rfl) q9 ?_;try simp only [qq]
 by_cases g3' : fO r.num r.of_ r.held = false
 ·skip
  refine bV 17 fun K hK => ?_
  go_simp;refine (jK r p _ (by exact hR.ext q9.bel)).mono ?_;rintro e z9 ⟨he, hz9⟩;rw [g3'] at he;subst he;go_wp2_with fail;refine hK.out _ _ (q9.ext hz9) (fun hNew => ?_);clear hK K q9 hz9;have q9 := hNew;clear hNew;try simp only [qq]
  refine ag.go [18, 19, 20, 21, 22, 23, 24, 25, 26, 27, 28, 29, 30, 31, 32, 33, 34, 35, 36, 37, 38, 39, 40, 41, 42, 43, 44, 45, 46, 47, 48, 49, 50, 51, 52, 53, 54, 55, 56, 57, 58, 59, 60, 61, 62, 63, 64, 65, 66, 67, 68, 69, 70, 71] ?_;iterate 2 (refine ag.tb q9 ?_; try simp only [qq])
  iterate 3 (refine ag.sk q9 ?_; try simp only [qq])
  iterate 2 (refine ag.tb q9 ?_; try simp only [qq])
  iterate 3 (refine ag.sk q9 ?_; try simp only [qq])
  iterate 2 (refine ag.tb q9 ?_; try simp only [qq])
  iterate 5 (refine ag.sk q9 ?_; try simp only [qq])
  iterate 2 (refine ag.tb q9 ?_; try simp only [qq])
  iterate 3 (refine ag.sk q9 ?_; try simp only [qq])
  iterate 2 (refine ag.tb q9 ?_; try simp only [qq])
  iterate 5 (refine ag.sk q9 ?_; try simp only [qq])
  iterate 2 (refine ag.tb q9 ?_; try simp only [qq])
  iterate 7 (refine ag.sk q9 ?_; try simp only [qq])
  iterate 2 (refine ag.tb q9 ?_; try simp only [qq])
  iterate 4 (refine ag.sk q9 ?_; try simp only [qq])
  iterate 2 (refine ag.tb q9 ?_; try simp only [qq])
  iterate 6 (refine ag.sk q9 ?_; try simp only [qq])
  iterate 2 (refine ag.tb q9 ?_; try simp only [qq])
  refine ag.fin ?_;refine wpAnyH_done (by kernel_rfl) ?_ _;go_wp2;go_ret;exact ⟨by rw [Dw g3']; rfl, aj hB q9.bel⟩
 have g3 : Hid (fO r.num r.of_ r.held = true) := eq_true_of_ne_false g3';clear g3';refine bV 17 fun K hK => ?_
 go_simp;refine (jK r p _ (by exact hR.ext q9.bel)).mono ?_;rintro e z10 ⟨he, hz10⟩;rw [g3.out] at he;subst he;go_wp2_with fail;refine hK.out _ _ (q9.ext hz10) (fun hNew => ?_);clear hK K q9 hz10;have q9 := hNew;clear hNew;try simp only [qq]
 refine ag.go [18, 19, 20, 21] ?_;iterate 4 (refine ag.tb q9 ?_; try simp only [qq])
 refine ag.fin ?_;by_cases g4' : dF r.wish = false
 ·skip
  refine bV 22 fun K hK => ?_
  go_simp;refine (iZ p.aW r.wish _ p.cW _ rfl hW.out hR.lW (by exact (hR.ext q9.bel).hW)).mono ?_;rintro e z11 ⟨he, hz11⟩;rw [g4'] at he;subst he;go_wp2_with fail;refine hK.out _ _ (q9.ext hz11) (fun hNew => ?_);clear hK K q9 hz11;have q9 := hNew;clear hNew;try simp only [qq]
  refine ag.go [23, 24, 25, 26, 27, 28, 29, 30, 31, 32, 33, 34, 35, 36, 37, 38, 39, 40, 41, 42, 43, 44, 45, 46, 47, 48, 49, 50, 51, 52, 53, 54, 55, 56, 57, 58, 59, 60, 61, 62, 63, 64, 65, 66, 67, 68, 69, 70, 71] ?_;iterate 2 (refine ag.tb q9 ?_; try simp only [qq])
  iterate 3 (refine ag.sk q9 ?_; try simp only [qq])
  iterate 2 (refine ag.tb q9 ?_; try simp only [qq])
  iterate 5 (refine ag.sk q9 ?_; try simp only [qq])
  iterate 2 (refine ag.tb q9 ?_; try simp only [qq])
  iterate 3 (refine ag.sk q9 ?_; try simp only [qq])
  iterate 2 (refine ag.tb q9 ?_; try simp only [qq])
  iterate 5 (refine ag.sk q9 ?_; try simp only [qq])
  iterate 2 (refine ag.tb q9 ?_; try simp only [qq])
  iterate 7 (refine ag.sk q9 ?_; try simp only [qq])
  iterate 2 (refine ag.tb q9 ?_; try simp only [qq])
  iterate 4 (refine ag.sk q9 ?_; try simp only [qq])
  iterate 2 (refine ag.tb q9 ?_; try simp only [qq])
  iterate 6 (refine ag.sk q9 ?_; try simp only [qq])
  iterate 2 (refine ag.tb q9 ?_; try simp only [qq])
  refine ag.fin ?_;refine wpAnyH_done (by kernel_rfl) ?_ _;go_wp2;go_ret;exact ⟨by rw [JB g4']; rfl, aj hB q9.bel⟩
 have g4 : Hid (dF r.wish = true) := eq_true_of_ne_false g4';clear g4';refine bV 22 fun K hK => ?_
 go_simp;refine (iZ p.aW r.wish _ p.cW _ rfl hW.out hR.lW (by exact (hR.ext q9.bel).hW)).mono ?_;rintro e z12 ⟨he, hz12⟩;rw [g4.out] at he;subst he;go_wp2_with fail;refine hK.out _ _ (q9.ext hz12) (fun hNew => ?_);clear hK K q9 hz12;have q9 := hNew;clear hNew;try simp only [qq]
 refine ag.go [23, 24, 25, 26] ?_;iterate 4 (refine ag.tb q9 ?_; try simp only [qq])
 refine ag.fin ?_;by_cases g5' : inB r.heard 0 1000000 = false
 ·skip
  refine bV 27 fun K hK => ?_
  go_simp;refine (nX _ _ _ _).mono ?_;rintro e z13 ⟨he, hz13⟩;rw [g5'] at he;subst he;go_wp2_with fail;refine hK.out _ _ (q9.ext hz13) (fun hNew => ?_);clear hK K q9 hz13;have q9 := hNew;clear hNew;try simp only [qq]
  refine ag.go [28, 29, 30, 31, 32, 33, 34, 35, 36, 37, 38, 39, 40, 41, 42, 43, 44, 45, 46, 47, 48, 49, 50, 51, 52, 53, 54, 55, 56, 57, 58, 59, 60, 61, 62, 63, 64, 65, 66, 67, 68, 69, 70, 71] ?_;iterate 2 (refine ag.tb q9 ?_; try simp only [qq])
  iterate 5 (refine ag.sk q9 ?_; try simp only [qq])
  iterate 2 (refine ag.tb q9 ?_; try simp only [qq])
  iterate 3 (refine ag.sk q9 ?_; try simp only [qq])
  iterate 2 (refine ag.tb q9 ?_; try simp only [qq])
  iterate 5 (refine ag.sk q9 ?_; try simp only [qq])
  iterate 2 (refine ag.tb q9 ?_; try simp only [qq])
  iterate 7 (refine ag.sk q9 ?_; try simp only [qq])
  iterate 2 (refine ag.tb q9 ?_; try simp only [qq])
  iterate 4 (refine ag.sk q9 ?_; try simp only [qq])
  iterate 2 (refine ag.tb q9 ?_; try simp only [qq])
  iterate 6 (refine ag.sk q9 ?_; try simp only [qq])
  iterate 2 (refine ag.tb q9 ?_; try simp only [qq])
  refine ag.fin ?_;refine wpAnyH_done (by kernel_rfl) ?_ _;go_wp2;go_ret;exact ⟨by rw [JO g5']; rfl, aj hB q9.bel⟩
 have g5 : Hid (inB r.heard 0 1000000 = true) := eq_true_of_ne_false g5';clear g5';exact absurd ⟨g3.out, g4.out, g5.out⟩ hNot.out
theorem Nc (r : Rc) (p : fU) (w : World) (hW : Hid (r.wish.length ≤ p.cW)) (h : oL w r p) (g0 : Hid ((inB r.of_ 1 5 && inB r.num 1 r.of_) = true)) (g1 : Hid (bW r.sp r.sk r.ss = true)) (g2 : Hid (bW r.dp r.dk r.ds = true)) (g3 : Hid (fO r.num r.of_ r.held = true)) (g4 : Hid (dF r.wish = true)) (g5 : Hid (inB r.heard 0 1000000 = true)) (hNot : Hid (¬ (dh r.of_ r.yes = true ∧ bM r.best = true ∧ dZ r.of_ r.acks = true))) :
  Calls Try.prog 12 #[.agg (au r p)] w fun e w' => e = .returned (.bool (bf r)) ∧ Below w.heap.size w w' := by
 have hB : Below w.heap.size w (w.alloc (.cells (au r p) 31)) := ae (Below.refl _ _) _;have hR := h.ext hB;have hK0 : mG (w.alloc (.cells (au r p) 31)) w.heap.size r p (w.alloc (.cells (au r p) 31)) := ⟨aC.new w (au r p) 31, Below.refl _ _⟩
 clear h;go_enter Try.func12, Try.ntmps12;go_wp2_with fail;simp only [List.append_eq, List.cons_append, List.nil_append];refine wp_region_held_drew (S := mG (w.alloc (.cells (au r p) 31)) w.heap.size r p) (by kernel_rfl) hK0.drew (fun q9 => ?_);clear hK0;simp only [qz, Nat.reduceAdd];refine ag.go [0, 1, 2, 3] ?_;iterate 4 (refine ag.tb q9 ?_; try simp only [qq])
 refine ag.fin ?_;have hof : Hid (r.of_ ≤ 1000000) := by
  have h9 := g0.out;rw [Bool.and_eq_true] at h9;have := bK.1 h9.1;unfold Hid;omega
 refine bV 4 fun K hK => ?_
 go_simp;refine (iH _ _ _).mono ?_;rintro e z14 ⟨he, hz14⟩;rw [g0.out] at he;subst he;go_wp2_with fail;refine hK.out _ _ (q9.ext hz14) (fun hNew => ?_);clear hK K q9 hz14;have q9 := hNew;clear hNew;try simp only [qq]
 refine ag.go [5, 6, 7] ?_;iterate 3 (refine ag.tb q9 ?_; try simp only [qq])
 refine ag.fin ?_;refine bV 8 fun K hK => ?_
 go_simp;refine (dB r.sp r.sk p.aS r.ss _ p.cS _ rfl hR.lS (by exact (hR.ext q9.bel).hS)).mono ?_;rintro e z15 ⟨he, hz15⟩;rw [g1.out] at he;subst he;go_wp2_with fail;refine hK.out _ _ (q9.ext hz15) (fun hNew => ?_);clear hK K q9 hz15;have q9 := hNew;clear hNew;try simp only [qq]
 refine ag.go [9, 10, 11, 12] ?_;iterate 4 (refine ag.tb q9 ?_; try simp only [qq])
 refine ag.fin ?_;refine bV 13 fun K hK => ?_
 go_simp;refine (dB r.dp r.dk p.aD r.ds _ p.cD _ rfl hR.lD (by exact (hR.ext q9.bel).hD)).mono ?_;rintro e z16 ⟨he, hz16⟩;rw [g2.out] at he;subst he;go_wp2_with fail;refine hK.out _ _ (q9.ext hz16) (fun hNew => ?_);clear hK K q9 hz16;have q9 := hNew;clear hNew;try simp only [qq]
 refine ag.go [14, 15] ?_;iterate 2 (refine ag.tb q9 ?_; try simp only [qq])
 refine ag.fin ?_;refine wpAnyH_take (i := 16) (ax rfl) (by kernel_rfl) (by kernel_rfl) (by kernel_rfl) (fun _ _ _ h => h) (fC (by rfl) _ rfl rfl) q9 ?_;try simp only [qq]
 refine bV 17 fun K hK => ?_
 go_simp;refine (jK r p _ (by exact hR.ext q9.bel)).mono ?_;rintro e z17 ⟨he, hz17⟩;rw [g3.out] at he;subst he;go_wp2_with fail;refine hK.out _ _ (q9.ext hz17) (fun hNew => ?_);clear hK K q9 hz17;have q9 := hNew;clear hNew;try simp only [qq]
 refine ag.go [18, 19, 20, 21] ?_;iterate 4 (refine ag.tb q9 ?_; try simp only [qq])
 refine ag.fin ?_;refine bV 22 fun K hK => ?_
 go_simp;refine (iZ p.aW r.wish _ p.cW _ rfl hW.out hR.lW (by exact (hR.ext q9.bel).hW)).mono ?_;rintro e z18 ⟨he, hz18⟩;rw [g4.out] at he;subst he;go_wp2_with fail;refine hK.out _ _ (q9.ext hz18) (fun hNew => ?_);clear hK K q9 hz18;have q9 := hNew;clear hNew;try simp only [qq]
 refine ag.go [23, 24, 25, 26] ?_;iterate 4 (refine ag.tb q9 ?_; try simp only [qq])
 refine ag.fin ?_;refine bV 27 fun K hK => ?_
 go_simp;refine (nX _ _ _ _).mono ?_;rintro e z19 ⟨he, hz19⟩;rw [g5.out] at he;subst he;go_wp2_with fail;refine hK.out _ _ (q9.ext hz19) (fun hNew => ?_);clear hK K q9 hz19;have q9 := hNew;clear hNew;try simp only [qq]
 refine ag.go [28, 29, 30, 31, 32, 33] ?_;iterate 6 (refine ag.tb q9 ?_; try simp only [qq])
 refine ag.fin ?_;by_cases g6' : dh r.of_ r.yes = false
 ·skip
  refine bV 34 fun K hK => ?_
  go_simp;refine (jg p.aY r.yes _ p.cY _ _ rfl hR.lY hof.out (by exact (hR.ext q9.bel).hY)).mono ?_;rintro e z20 ⟨he, hz20⟩;rw [g6'] at he;subst he;go_wp2_with fail;refine hK.out _ _ (q9.ext hz20) (fun hNew => ?_);clear hK K q9 hz20;have q9 := hNew;clear hNew;try simp only [qq]
  refine ag.go [35, 36, 37, 38, 39, 40, 41, 42, 43, 44, 45, 46, 47, 48, 49, 50, 51, 52, 53, 54, 55, 56, 57, 58, 59, 60, 61, 62, 63, 64, 65, 66, 67, 68, 69, 70, 71] ?_;iterate 2 (refine ag.tb q9 ?_; try simp only [qq])
  iterate 3 (refine ag.sk q9 ?_; try simp only [qq])
  iterate 2 (refine ag.tb q9 ?_; try simp only [qq])
  iterate 5 (refine ag.sk q9 ?_; try simp only [qq])
  iterate 2 (refine ag.tb q9 ?_; try simp only [qq])
  iterate 7 (refine ag.sk q9 ?_; try simp only [qq])
  iterate 2 (refine ag.tb q9 ?_; try simp only [qq])
  iterate 4 (refine ag.sk q9 ?_; try simp only [qq])
  iterate 2 (refine ag.tb q9 ?_; try simp only [qq])
  iterate 6 (refine ag.sk q9 ?_; try simp only [qq])
  iterate 2 (refine ag.tb q9 ?_; try simp only [qq])
  refine ag.fin ?_;refine wpAnyH_done (by kernel_rfl) ?_ _;go_wp2;go_ret;exact ⟨by rw [JI g6']; rfl, aj hB q9.bel⟩
 have g6 : Hid (dh r.of_ r.yes = true) := eq_true_of_ne_false g6';clear g6';refine bV 34 fun K hK => ?_
 go_simp;refine (jg p.aY r.yes _ p.cY _ _ rfl hR.lY hof.out (by exact (hR.ext q9.bel).hY)).mono ?_;rintro e z21 ⟨he, hz21⟩;rw [g6.out] at he;subst he;go_wp2_with fail;refine hK.out _ _ (q9.ext hz21) (fun hNew => ?_);clear hK K q9 hz21;have q9 := hNew;clear hNew;try simp only [qq]
 refine ag.go [35, 36, 37, 38] ?_;iterate 4 (refine ag.tb q9 ?_; try simp only [qq])
 refine ag.fin ?_;by_cases g7' : bM r.best = false
 ·skip
  refine bV 39 fun K hK => ?_
  go_simp;refine (dH p.aB r.best _ p.cB _ rfl hR.lB (by exact (hR.ext q9.bel).hB)).mono ?_;rintro e z22 ⟨he, hz22⟩;rw [g7'] at he;subst he;go_wp2_with fail;refine hK.out _ _ (q9.ext hz22) (fun hNew => ?_);clear hK K q9 hz22;have q9 := hNew;clear hNew;try simp only [qq]
  refine ag.go [40, 41, 42, 43, 44, 45, 46, 47, 48, 49, 50, 51, 52, 53, 54, 55, 56, 57, 58, 59, 60, 61, 62, 63, 64, 65, 66, 67, 68, 69, 70, 71] ?_;iterate 2 (refine ag.tb q9 ?_; try simp only [qq])
  iterate 5 (refine ag.sk q9 ?_; try simp only [qq])
  iterate 2 (refine ag.tb q9 ?_; try simp only [qq])
  iterate 7 (refine ag.sk q9 ?_; try simp only [qq])
  iterate 2 (refine ag.tb q9 ?_; try simp only [qq])
  iterate 4 (refine ag.sk q9 ?_; try simp only [qq])
  iterate 2 (refine ag.tb q9 ?_; try simp only [qq])
  iterate 6 (refine ag.sk q9 ?_; try simp only [qq])
  iterate 2 (refine ag.tb q9 ?_; try simp only [qq])
  refine ag.fin ?_;refine wpAnyH_done (by kernel_rfl) ?_ _;go_wp2;go_ret;exact ⟨by rw [Jy g7']; rfl, aj hB q9.bel⟩
 have g7 : Hid (bM r.best = true) := eq_true_of_ne_false g7';clear g7';refine bV 39 fun K hK => ?_
 go_simp;refine (dH p.aB r.best _ p.cB _ rfl hR.lB (by exact (hR.ext q9.bel).hB)).mono ?_;rintro e z23 ⟨he, hz23⟩;rw [g7.out] at he;subst he;go_wp2_with fail;refine hK.out _ _ (q9.ext hz23) (fun hNew => ?_);clear hK K q9 hz23;have q9 := hNew;clear hNew;try simp only [qq]
 refine ag.go [40, 41, 42, 43, 44, 45] ?_;iterate 6 (refine ag.tb q9 ?_; try simp only [qq])
 refine ag.fin ?_;by_cases g8' : dZ r.of_ r.acks = false
 ·skip
  refine bV 46 fun K hK => ?_
  go_simp;refine (mO p.aA r.acks _ p.cA _ _ rfl hR.lA hof.out (by exact (hR.ext q9.bel).hA)).mono ?_;rintro e z24 ⟨he, hz24⟩;rw [g8'] at he;subst he;go_wp2_with fail;refine hK.out _ _ (q9.ext hz24) (fun hNew => ?_);clear hK K q9 hz24;have q9 := hNew;clear hNew;try simp only [qq]
  refine ag.go [47, 48, 49, 50, 51, 52, 53, 54, 55, 56, 57, 58, 59, 60, 61, 62, 63, 64, 65, 66, 67, 68, 69, 70, 71] ?_;iterate 2 (refine ag.tb q9 ?_; try simp only [qq])
  iterate 7 (refine ag.sk q9 ?_; try simp only [qq])
  iterate 2 (refine ag.tb q9 ?_; try simp only [qq])
  iterate 4 (refine ag.sk q9 ?_; try simp only [qq])
  iterate 2 (refine ag.tb q9 ?_; try simp only [qq])
  iterate 6 (refine ag.sk q9 ?_; try simp only [qq])
  iterate 2 (refine ag.tb q9 ?_; try simp only [qq])
  refine ag.fin ?_;refine wpAnyH_done (by kernel_rfl) ?_ _;go_wp2;go_ret;exact ⟨by rw [JH g8']; rfl, aj hB q9.bel⟩
 have g8 : Hid (dZ r.of_ r.acks = true) := eq_true_of_ne_false g8';clear g8';exact absurd ⟨g6.out, g7.out, g8.out⟩ hNot.out
end Go.Proofs.Ytjdceoimignnpaa
