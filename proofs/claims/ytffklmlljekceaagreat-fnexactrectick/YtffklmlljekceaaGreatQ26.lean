import Derived.Test.YtffklmlljekceaaGreatQ24
namespace Go.Proofs.YtffklmlljekceaaGreat
open Go.ChangeShapes Go.WideShapes Go.ChangeAt Go.RowKit
set_option linter.unusedSimpArgs false
set_option linter.unusedVariables false
set_option maxHeartbeats 16000000
set_option maxRecDepth 20000
theorem wp_newA {dst : Option Tmp} {s x : Operand} {τ : TypeId} {pos : String} {after : Array Edge} {g : Option (Nat × Bool)} {a : Act} {w : World} {K : Act → World → Prop} {Q : Exit → Act → World → Prop}
  (b : Nat) (xa : Option Addr) (m c : Nat) (news : List Value) (hs : a.eval s = .slice (some ⟨b, 0, none⟩) 0 0) (hx : a.eval x = .slice xa m c) (hb : Blk w b #[] 105) (hr : ReadAt w xa m c 2 news)
  (h1 : ∀ u ∈ news, u.oneCell' = true) (hN : m ≤ 4194304)
  (h : ∀ a' c' w', w'.ownsRow b 105 2 (.slice a' m c') m news → w.grownBy w' (some b) → K (a.put dst (.slice a' m c')) w') :
  Oper.wp Tryz.prog ({ dst := dst, op := .call { callee := .builtin .append, args := #[s, x], argTypes := #[39, 39] }, type := τ, pos := pos, after := after, guard := g } : Oper) a w K Q :=
 wp_appA b (some ⟨b, 0, none⟩) 0 0 [] xa m c news hs hx ⟨by simp, .inr ⟨b, 0, #[], rfl, Nat.le_refl _, hb, Nat.le_refl _, by unfold maxLen; omega, by simp, by simp⟩⟩ hr h1 (by omega) (Nat.le_of_lt hb.lt) fun a' c' w' h2 h3 _ => by
  simp only [Nat.zero_add, List.nil_append] at h2 ⊢
  exact h a' c' w' h2 h3
theorem readA_take {w : World} {a : Option Addr} {n c k : Nat} {l : List Ap} (h : ReadAt w a n c 2 (flatA l)) (hk : k ≤ n) (hn : l.length = n) : ReadAt w a k c 2 (flatA (l.take k)) := by
 have hp : flatA l = flatA (l.take k) ++ flatA (l.drop k) := by rw [← flatA_app, List.take_append_drop]
 refine ⟨by rw [flatA_len, List.length_take]; omega, fun h0 => ?_, fun y hy => ⟨(h.cells y hy).1, fun j u hu => (h.cells y hy).2 j u ?_⟩⟩
 ·have := h.nil h0
  exact ⟨by omega, this.2⟩
 rw [hp, List.getElem?_append_left (List.getElem?_eq_some_iff.1 hu).1]; exact hu
theorem readA_drop {w : World} {g : Nat} {n c k c' : Nat} {l : List Ap} (h : ReadAt w (some ⟨g, 0, none⟩) n c 2 (flatA l)) (hk : k ≤ n) (hn : l.length = n) (hnc : n ≤ c) : ReadAt w (if c = k then some ⟨g, 0, none⟩ else some ⟨g, k * 2, none⟩) (n - k) c' 2 (flatA (l.drop k)) := by
 have hp : flatA l = flatA (l.take k) ++ flatA (l.drop k) := by rw [← flatA_app, List.take_append_drop]
 have hl : (flatA (l.take k)).length = k * 2 := by rw [flatA_len, List.length_take]; omega
 refine ⟨by rw [flatA_len, List.length_drop]; omega, fun h0 => by split at h0 <;> simp at h0, fun y hy => ⟨by split at hy <;> (simp only [Option.some.injEq] at hy; rw [← hy]), fun j u hu => ?_⟩⟩
 have hlt := (List.getElem?_eq_some_iff.1 hu).1
 rw [flatA_len, List.length_drop] at hlt
 rw [if_neg (by omega)] at hy
 simp only [Option.some.injEq] at hy
 subst hy
 have h0 := (h.cells _ rfl).2 (k * 2 + j) u (by rw [hp, List.getElem?_append_right (by omega), hl, show k * 2 + j - k * 2 = j by omega]; exact hu)
 rw [Addr.add_mid] at h0 ⊢
 rw [Nat.zero_add] at h0
 exact h0
theorem read_ack {w : World} {g : Nat} {u v : Value} (h : Blk w g #[u, v] 105) : ReadAt w (some ⟨g, 0, none⟩) 1 1 2 [u, v] :=
 ⟨by simp, fun h0 => by simp at h0, fun y hy => by
  simp only [Option.some.injEq] at hy
  subst hy
  refine ⟨rfl, fun j x hx => ?_⟩
  rw [Addr.add_mid, Nat.zero_add, h.cell j]
  simpa using hx⟩
structure AckS (B : Nat) (w : World) (col : Nat → Nat) (r : Rc) (p : RcP) (X : RcX) (c' : Nat → Nat) (v : World) : Prop where
 k : Blk v w.heap.size (rcV r p) 41
 z : Blk v (w.heap.size + 1) zRc 41
 has : RcHas B v r p X c'
 c0 : 8 < c' w.heap.size
 c1 : 8 < c' (w.heap.size + 1)
 bel : Below B w v
 oth : Others w col v c'
theorem AckS.ins {B : Nat} {w : World} {col : Nat → Nat} {r : Rc} {p : RcP} {X : RcX} {V v : World} {a : Option Addr} {n c K : Nat} {i : Int} {xs : List Value} (S0 : AckS B w col r p X (colF w.heap.size col) V) (hB : B ≤ w.heap.size) (hm : X.A.map (·.1) = r.acks) (BV : Below V.heap.size V v) (KB : Blk v w.heap.size (rcV r p) 41) (o : RowZ V.heap.size v.heap.size v 105 2 a n c xs) (hn : n = (insX X.A K i).length) (hx : xs = flatA (insX X.A K i)) (hi : wfI i) (hK : (insX X.A K i)[K]? = some (((i, []), none, 0) : Ap)) :
  ∃ g, a = some ⟨g, 0, none⟩ ∧ AckS B w col { r with acks := insL r.acks K i } { p with aA := some ⟨g, 0, none⟩, cA := c } ⟨X.H, insX X.A K i⟩ (colN (some ⟨g, 0, none⟩) 6 (colF V.heap.size (colF w.heap.size col))) (v.setCell ⟨w.heap.size, 16, none⟩ (.slice (some ⟨g, 0, none⟩) n c)) := by
 subst hn hx
 have SZ := S0.z.lt
 have HI := (S0.has.fresh.ext BV).insert_a o (Nat.le_trans hB (by omega)) (fun y hy => by rw [colF_new (o.lo y hy).1]; omega) hi
 have CO : ∀ b, b < V.heap.size → colN a 6 (colF V.heap.size (colF w.heap.size col)) b = colF w.heap.size col b := fun b hb => by
  unfold colN
  split
  ·rename_i e
   rw [Option.map_eq_some_iff] at e
   obtain ⟨y, hy, rfl⟩ := e
   have := (o.lo y hy).1
   omega
  exact colF_old hb
 have NEQ : (insX X.A K i).length = (insL r.acks K i).length := by rw [← insX_map hm, List.length_map]
 have SS : AckS B w col { r with acks := insL r.acks K i } { p with aA := a, cA := c } ⟨X.H, insX X.A K i⟩ (colN a 6 (colF V.heap.size (colF w.heap.size col))) (v.setCell ⟨w.heap.size, 16, none⟩ (.slice a (insX X.A K i).length c)) :=
  ⟨by have h9 := KB.set (o := 16) (.slice a (insX X.A K i).length c); rw [NEQ] at h9 ⊢; simpa using h9, ((S0.z.ext BV).setCell (by simp) _), HI.setCell (q := ⟨w.heap.size, 16, none⟩) (by show 8 < _; rw [CO w.heap.size (by omega)]; exact S0.c0) _, by rw [CO w.heap.size (by omega)]; exact S0.c0, by rw [CO _ SZ]; exact S0.c1, below_set (S0.bel.trans (BV.mono (Nat.le_trans hB (by omega)))) hB _,
   fun b hb h8 => ⟨(heap_setCell_other _ ⟨w.heap.size, 16, none⟩ b _ (by simp; omega)).trans ((BV.block b (by omega)).trans (S0.oth b hb h8).1), by rw [CO b (by omega)]; exact (S0.oth b hb h8).2⟩⟩
 obtain ⟨g, hg, _⟩ := SS.has.a.cellA (i := K) (m := ((i, []), none, 0)) hK (q := 0) (by omega) rfl
 dsimp only at hg
 subst hg
 exact ⟨g, rfl, SS⟩
def FinA (B : Nat) (w : World) (col : Nat → Nat) (r : Rc) (p : RcP) (X : RcX) (V : World) (K : Nat) (i : Int) (a a' : Act) (w' : World) : Prop :=
 ∃ u0 u1 u2 u3 u4 u5 u6 u7 u8 u9 u10 u11 u12 u13 u14 u15 g9 c9, a' = ((((((((((((((((a.put (some 40) u0).put (some 41) u1).put (some 42) u2).put (some 43) u3).put (some 44) u4).put (some 45) u5).put (some 46) u6).put (some 47) u7).put (some 48) u8).put (some 49) u9).put (some 50) u10).put (some 51) u11).put (some 52) u12).put (some 53) u13).put (some 54) u14).put (some 55) u15) ∧ AckS B w col { r with acks := insL r.acks K i } { p with aA := some ⟨g9, 0, none⟩, cA := c9 } ⟨X.H, insX X.A K i⟩ (colN (some ⟨g9, 0, none⟩) 6 (colF V.heap.size (colF w.heap.size col))) w'
structure AckT (V : World) (g : Nat) (c : Array Value) (q : Addr) (u : Value) (w' : World) : Prop where
 blk : Blk w' g c 41
 cel : w'.cell? q = some u
 bel : Below V.heap.size V w'
theorem AckT.drew {V : World} {g : Nat} {c : Array Value} {q : Addr} {u : Value} {w' : World} (h : AckT V g c q u w') : AckT V g c q u w'.drew := ⟨h.blk, h.cel, h.bel.drew⟩
theorem AckT.ext {V : World} {g : Nat} {c : Array Value} {q : Addr} {u : Value} {w' v' : World} (h : AckT V g c q u w') (hb : Below w'.heap.size w' v') : AckT V g c q u v' :=
 ⟨h.blk.ext hb, (hb.cell (World.block_lt_of_cell? _ _ h.cel)).trans h.cel, ext_trans h.bel hb⟩
theorem RcHas.took {B lo hi : Nat} {w : World} {r : Rc} {p : RcP} {X : RcX} {col : Nat → Nat} {g : Nat} {a2 : Option Addr} {c2 k : Nat} {x : Ap} {fl : List Int} (h : RcHas B w r p X col) (hx : X.A[k]? = some x) (hg : p.aA = some ⟨g, 0, none⟩)
  (hr : (a2 = x.2.1 ∧ c2 = x.2.2 ∧ fl = x.1.2) ∨ RowZ lo hi w 3 1 a2 fl.length c2 (flatI fl)) (hB : B ≤ lo) (hf : ∀ b, lo ≤ b → 8 < col b) (hgl : fl.length ≤ maxLen) (hgf : GoodOnes wfI fl) :
  ∃ X' col', RcHas B (w.setCell ⟨g, k * 2 + 1, none⟩ (.slice a2 fl.length c2)) { r with acks := r.acks.set k (x.1.1, fl) } p X' col' ∧ ∀ b, b < lo → 8 < col b → 8 < col' b := by
 rcases hr with ⟨rfl, rfl, rfl⟩ | hr
 ·have hxm : r.acks[k]? = some x.1 := by rw [← h.am, List.getElem?_map, hx]; rfl
  have e0 : X.A.set k ((x.1.1, x.1.2), x.2.1, x.2.2) = X.A := by
   obtain ⟨h1, h2, _⟩ := set_parts hx ((x.1.1, x.1.2), x.2.1, x.2.2)
   rw [h2]
   exact h1.symm
  have e1 : r.acks.set k (x.1.1, x.1.2) = r.acks := by
   obtain ⟨h1, h2, _⟩ := set_parts hxm (x.1.1, x.1.2)
   rw [h2]
   exact h1.symm
  have ho := h.a.own
  rw [hg] at ho
  have hst := ho.stored (k * 2 + 1) (.slice x.2.1 x.1.2.length x.2.2)
  rw [flatA_set hx, e0] at hst
  have hcg : col g = 6 := h.a.col _ hg
  have h2 := h.put_a (w' := w.setCell ⟨g, k * 2 + 1, none⟩ (.slice x.2.1 x.1.2.length x.2.2)) (l := X.A) (by rw [← h.am, List.length_map]) (fun b hb hne => heap_setCell_other w ⟨g, k * 2 + 1, none⟩ b _ (fun e => hne (by rw [e]; exact hcg))) (by rw [hg]; exact hst.1) h.ai (by rw [h.am]; exact h.gd.a)
  rw [h.am] at h2
  rw [e1]
  exact ⟨_, col, h2, fun b _ h8 => h8⟩
 refine ⟨_, _, h.took_new hx hg hr hB (fun y hy => hf _ (hr.lo y hy).1) hgl hgf, fun b hb h8 => ?_⟩
 unfold colN
 split
 ·rename_i e
  rw [Option.map_eq_some_iff] at e
  obtain ⟨y, hy, rfl⟩ := e
  have := (hr.lo y hy).1
  omega
 exact h8
theorem small_set {l : List Ak} {k : Nat} {y : Ak} (h : AcksSmall l) (hy : y.2.length ≤ 1048576) : AcksSmall (l.set k y) := fun j s hs => by
 rw [List.getElem?_set] at hs
 split at hs
 ·split at hs
  ·simp only [Option.some.injEq] at hs; subst hs; exact hy
  simp at hs
 exact h j s hs
theorem small_ins {l : List Ak} {k : Nat} {i : Int} (h : AcksSmall l) : AcksSmall (insL l k i) := fun j s hs => by
 have hm := List.mem_of_getElem? hs
 unfold insL at hm
 simp only [List.mem_append, List.mem_singleton] at hm
 rcases hm with (hm | rfl) | hm
 ·obtain ⟨n, hn⟩ := List.getElem?_of_mem (List.mem_of_mem_take hm); exact h n s hn
 ·exact Nat.zero_le _
 obtain ⟨n, hn⟩ := List.getElem?_of_mem (List.mem_of_mem_drop hm); exact h n s hn
theorem specAck (B : Nat) (r : Rc) (p : RcP) (X : RcX) (col : Nat → Nat) (i f : Int) (w : World) (hB : B ≤ w.heap.size) (hd0 : 0 ≤ r.dk) (hd1 : r.dk ≤ r.ds.length) (hS : RcSmall r) (hA1 : r.acks.length ≤ 100000) (hA2 : ∀ (j : Nat) a, r.acks[j]? = some a → a.2.length ≤ 100000) (hi : wfI i) (hf : wfI f) (h : RcHas B w r p X col) :
  Calls Tryz.prog 80 #[.agg (rcV r p), .int .i64 i, .int .i64 f] w (TPost B w col (ackR r i f)) := by
 have HB := hid hB
 have HS := hid hS
 have HM := hid h.am
 have HD := hid (And.intro hd0 hd1)
 have HW := hid (And.intro hi hf)
 have HA := hid hA2
 have HC := hid h.a.len.2
 have BV := hid (show Below w.heap.size w ((w.alloc (.cells (rcV r p) 41)).alloc (.cells zRc 41)) from ext_alloc (ext_alloc (Below.refl _ _) _) _)
 obtain ⟨V, hV⟩ : ∃ V, V = (w.alloc (.cells (rcV r p) 41)).alloc (.cells zRc 41) := ⟨_, rfl⟩
 have S0 := hid (show AckS B w col r p X (colF w.heap.size col) V by
  rw [hV]
  exact ⟨(Blk.new _ _ _).alloc _, Blk.new' _ _ (by simp), h.fresh.ext BV.out, by rw [colF_new (Nat.le_refl _)]; omega, by rw [colF_new (by omega)]; omega, BV.out.mono hB, Others.of BV.out (fun b hb => colF_old hb)⟩)
 have SZ := hid (show w.heap.size + 1 < V.heap.size from S0.out.z.lt)
 have CL := hid (show ∀ b, w.heap.size ≤ b → 8 < colF w.heap.size col b from fun b hb => by rw [colF_new hb]; omega)
 clear h hS hB hd0 hd1 hi hf hA2 BV
 go_enter Tryz.func80, Tryz.ntmps80
 go_wp2_with fail
 rw [← hV]
 clear hV
 go_loopw [7] (fun j wr => ∃ (k : Nat), k ≤ r.acks.length ∧ j = .int .i64 k ∧ (∀ (n : Nat) y, n < k → r.acks[n]? = some y → y.1 < i) ∧ V = wr) (fun j _ => r.acks.length - (intOf j).toNat)
 case atStart => exact ⟨0, Nat.zero_le _, rfl, fun j s hj => absurd hj (by omega), rfl⟩
 obtain ⟨k, hk, rfl, hall0, rfl⟩ := hrel
 have hall := hid hall0
 clear hall0
 have cK := S0.out.k.cell
 have fK := S0.out.k.free
 obtain ⟨aS, cS, aD, cD, aH, cH, aW, cW, aY, cY, aB, cB, aA, cA⟩ := p
 have e1 : (0 : Int) ≤ (k : Int) := by omega
 by_cases hlt : k < r.acks.length
 ·have e2 : (k : Int) < (r.acks.length : Int) := by omega
  obtain ⟨x, hx0⟩ : ∃ x, X.A[k]? = some x := ⟨_, List.getElem?_eq_getElem (by rw [← List.length_map (f := (·.1)), HM.out]; exact hlt)⟩
  have HX := hid hx0
  have hx : Hid (r.acks[k]? = some x.1) := by
   show r.acks[k]? = some x.1
   rw [← HM.out, List.getElem?_map, hx0]; rfl
  obtain ⟨gA, ea, _, c0, _⟩ := S0.out.has.a.cellA hx0 (q := 0) (by omega) rfl
  dsimp only at ea
  subst ea
  simp only [Nat.add_zero] at c0
  clear hx0
  by_cases hp : x.1.1 < i
  ·have u1 : decide (x.1.1 < i) = true := decide_eq_true hp
   go_wp2
   go_roundw
   case rel =>
    refine ⟨k + 1, by omega, by go_num, fun j u hj hu => ?_, by first | rfl | trivial⟩
    by_cases he : j = k
    ·subst he; rw [hx.out] at hu; simp only [Option.some.injEq] at hu; rw [← hu]; exact hp
    exact hall.out j u (by omega) hu
   case measure => simp [intOf]; omega
  have u1 : decide (x.1.1 < i) = false := decide_eq_false hp
  have u3 : ((k : Int) == (r.acks.length : Int)) = false := beq_false_of_ne (by omega)
  by_cases hq : x.1.1 = i
  ·have u2 : (x.1.1 == i) = true := by rw [hq]; exact beq_self_eq_true _
   go_wp2_with fail
   have SS := S0
   have HX2 := HX
   have RS2 := HS
   have HD2 := HD
   have FL := hid (HA.out k _ hx.out)
   have FIN := hid (show ackR r i f = advR { r with acks := r.acks.set k (x.1.1, addL x.1.2 f) } by unfold ackR; rw [ackL_same hall.out hx.out hq])
   clear cK fK c0
   obtain ⟨gZ, ez, _, cc1, _⟩ := SS.out.has.a.cellA HX2.out (q := 1) (by omega) rfl
   have ez2 : gA = gZ := by simpa using ez
   subst ez2
   have hK0 : AckT V w.heap.size (rcV r ⟨aS, cS, aD, cD, aH, cH, aW, cW, aY, cY, aB, cB, some ⟨gA, 0, none⟩, cA⟩) ⟨gA, k * 2 + 1, none⟩ (.slice x.2.1 x.1.2.length x.2.2) V := ⟨SS.out.k, cc1, Below.refl _ _⟩
   have IR := hid (SS.out.has.ai.row _ (List.mem_of_getElem? HX2.out))
   have HAC := hid SS.out.has.fresh
   clear cc1 ez
   refine wp_region_last (S := AckT V w.heap.size (rcV r ⟨aS, cS, aD, cD, aH, cH, aW, cW, aY, cY, aB, cB, some ⟨gA, 0, none⟩, cA⟩) ⟨gA, k * 2 + 1, none⟩ (.slice x.2.1 x.1.2.length x.2.2)) 13 (by kernel_rfl) hK0.drew (fun hHeld => ?_)
   simp only [qz, Nat.reduceAdd]
   clear hK0
   refine planL.go [0, 1, 2, 3, 4, 5, 6, 7, 8, 9] ?_
   iterate 10 (apply planL.take (at_lit rfl) (by kernel_rfl) (by rfl) (fun _ _ _ h => h) hHeld; (· intro w9 hSw; have hq := hSw.blk.cell; have hc := hSw.cel; clear hSw; go_simp; try with_reducible rfl); try simp only [qq])
   refine planL.fin ?_
   refine rdL 10 (by kernel_rfl) (at_lit rfl) (fun K hK => ?_)
   go_simp
   refine (specAdd x.2.1 x.1.2 x.2.2 f _ (by have := FL.out; omega) IR.out.len.2 (IR.out.read.ext (hHeld.bel))).mono ?_
   rintro e v6 ⟨a6, c6, rfl, hor, hb6⟩
   have OR6 := hid hor
   have B6 := hid (ext_trans hHeld.bel hb6)
   clear hor
   go_wp2_with fail
   refine hK.out _ _ (hHeld.ext hb6) (fun hNew => ?_)
   clear hK K hHeld hb6
   have hHeld := hNew
   clear hNew
   try simp only [qq]
   refine rdL 11 (by kernel_rfl) (at_lit rfl) (fun K hK => ?_)
   go_simp
   refine hK.out _ _ hHeld (fun hNew => ?_)
   clear hK K hNew
   try simp only [qq]
   refine planL.go [12] ?_
   iterate 1 (apply planL.take (at_lit rfl) (by kernel_rfl) (by rfl) (fun _ _ _ h => h) hHeld; (· intro w9 hSw; have hq := hSw.blk.cell; have hc := hSw.cel; clear hSw; go_simp; try with_reducible rfl); try simp only [qq])
   refine planL.fin ?_
   have H6 := hid (HAC.out.ext B6.out)
   obtain ⟨g6, e6, _, d6, f6⟩ := H6.out.a.cellA HX2.out (q := 1) (by omega) rfl
   have e6' : gA = g6 := by simpa using e6
   subst e6'
   clear e6 hHeld
   refine wpLast_end (by kernel_rfl) (at_lit rfl) (by kernel_rfl) (fun K hK => ?_)
   go_simp
   refine hK.out _ _ ?_
   clear hK K d6 f6
   obtain ⟨X7, col7, has7, cl7⟩ := H6.out.took (lo := V.heap.size) (hi := v6.heap.size) (a2 := a6) (c2 := c6) (fl := addL x.1.2 f) HX2.out rfl (OR6.out.imp id (fun h => h)) (Nat.le_trans HB.out (by have := SS.out.z.lt; omega)) (fun b hb => by rw [colF_new hb]; omega) (by have := addL_len x.1.2 f; have := FL.out; unfold maxLen; omega) (addL_good (SS.out.has.gd.a k _ (by rw [← SS.out.has.am, List.getElem?_map, HX2.out]; rfl)).2.2 HW.out.2)
   have H7 := hid has7
   have CL7 := hid cl7
   clear has7 cl7 OR6 H6 HAC
   obtain ⟨v7, hv7⟩ : ∃ v, v = v6.setCell ⟨gA, k * 2 + 1, none⟩ (.slice a6 (addL x.1.2 f).length c6) := ⟨_, rfl⟩
   rw [← hv7] at H7 ⊢
   have GC := hid (show (colF w.heap.size col) gA = 6 from SS.out.has.a.col _ rfl)
   have GB := hid (show B ≤ gA from (SS.out.has.a.lt _ rfl).1)
   have NE := hid (show ∀ b, 8 < (colF w.heap.size col) b → b ≠ gA from fun b h8 e => by rw [e, GC.out] at h8; omega)
   have HP := hid (show ∀ b, b < V.heap.size → b ≠ gA → v7.heap[b]? = V.heap[b]? from fun b hb hne => by rw [hv7]; exact (heap_setCell_other v6 ⟨gA, k * 2 + 1, none⟩ b _ hne).trans (B6.out.block b hb))
   have B7 := hid (show Below B w v7 by rw [hv7]; exact below_set (SS.out.bel.trans (B6.out.mono (Nat.le_trans HB.out (by have := SS.out.z.lt; omega)))) GB.out _)
   obtain ⟨r3, hr3⟩ : ∃ r3 : Rc, r3 = { r with acks := r.acks.set k (x.1.1, addL x.1.2 f) } := ⟨_, rfl⟩
   rw [← hr3] at H7
   have FIN3 := hid (show ackR r i f = advR r3 by rw [hr3]; exact FIN.out)
   have SM3 := hid (show RcSmall r3 by rw [hr3]; exact ⟨RS2.out.lS, RS2.out.lD, RS2.out.lH, RS2.out.lW, RS2.out.lY, RS2.out.lB, by simp only [List.length_set]; exact RS2.out.lA, RS2.out.nH, small_set RS2.out.nA (by have := addL_len x.1.2 f; have := FL.out; simp only; omega)⟩)
   have DK3 := hid (show 0 ≤ r3.dk ∧ r3.dk ≤ r3.ds.length by rw [hr3]; exact HD2.out)
   have K7 : Blk v7 w.heap.size (rcV r3 ⟨aS, cS, aD, cD, aH, cH, aW, cW, aY, cY, aB, cB, some ⟨gA, 0, none⟩, cA⟩) 41 := blk_eq ((HP.out _ SS.out.k.lt (NE.out _ SS.out.c0)).trans SS.out.k) (by rw [hr3]; simp)
   have Z7 := hid (show Blk v7 (w.heap.size + 1) zRc 41 from (HP.out _ SS.out.z.lt (NE.out _ SS.out.c1)).trans SS.out.z)
   clear hv7 B6 hr3
   go_wp2_with ((with_reducible refine wpList_load_rec w.heap.size (rcV r3 ⟨aS, cS, aD, cD, aH, cH, aW, cW, aY, cY, aB, cB, some ⟨gA, 0, none⟩, cA⟩) rfl ?_ ?_ ?_); (· rfl); (· exact K7))
   refine (specAdvance B r3 ⟨aS, cS, aD, cD, aH, cH, aW, cW, aY, cY, aB, cB, some ⟨gA, 0, none⟩, cA⟩ X7 col7 _ (Nat.le_trans HB.out (by have := K7.lt; omega)) DK3.out.1 DK3.out.2 SM3.out H7.out).mono ?_
   obtain ⟨r4, hr4⟩ : ∃ r4, r4 = advR r3 := ⟨_, rfl⟩
   rw [← hr4]
   have FIN4 := hid (FIN3.out.trans hr4.symm)
   clear hr4
   rintro e w8 ⟨p8, X8, col8, rfl, has8, hb8, ot8⟩
   have z8 := (ot8 (w.heap.size + 1) Z7.out.lt (CL7.out _ SS.out.z.lt (by rw [colF_old SS.out.z.lt]; exact SS.out.c1)))
   have k8 : Blk w8 (w.heap.size + 1) zRc 41 := z8.1.trans Z7.out
   go_wp2_with ((with_reducible refine wpList_store_rec_at (w.heap.size + 1) zRc (rcV r4 p8) rfl rfl ?_ ?_ ?_ ?_ ?_); (· rfl); (· rfl); (· exact k8); (· simp [Value.oneCell']))
   have hz := setRow_heap _ (w.heap.size + 1) _ (rcV r4 p8) _ _ k8
   refine ret_cell (ty := 41) Tryz.results80 (w.heap.size + 1) (rcV r4 p8) _ ?_ ?_ hz Tryz.underlying41 rfl (by kernel_rfl) ?_
   ·rfl
   ·rfl
   rw [FIN4.out]
   refine ⟨p8, X8, col8, rfl, has8.setRow z8.2 _, below_setRow' (B7.out.trans hb8) (by have := HB.out; omega) _, fun b hb h8 => ?_⟩
   obtain ⟨o1, o2⟩ := SS.out.oth b hb h8
   have bz : b < V.heap.size := by have := SS.out.z.lt; omega
   obtain ⟨q1, q2⟩ := ot8 b (by have := Z7.out.lt; omega) (CL7.out b bz (by rw [colF_old bz]; exact o2))
   exact ⟨(setRow_other _ _ b _ (by omega)).trans (q1.trans ((HP.out b bz (NE.out b o2)).trans o1)), q2⟩
  have u2 : (x.1.1 == i) = false := beq_false_of_ne hq
  go_wp2_with fail
  have XL := hid (show X.A.length = r.acks.length by rw [← HM.out, List.length_map])
  have RDA := hid S0.out.has.a.read
  have HC2 := HC.out
  try dsimp only at HC2
  have INS := hid (show (insX X.A k i)[k]? = some (((i, []), none, 0) : Ap) by
   unfold insX
   rw [List.append_assoc, List.getElem?_append_right (by simp; omega)]
   simp [Nat.min_eq_left (show k ≤ X.A.length by rw [XL.out]; omega)])
  have FIN0 := hid (show ackR r i f = advR { r with acks := (insL r.acks k i).set k (i, addL [] f) } by unfold ackR; rw [ackL_new hall.out (Nat.le_of_lt hlt) (fun y hy => by rw [hx.out] at hy; simp only [Option.some.injEq] at hy; rw [← hy]; omega)]; rfl)
  have e3 : (k : Int) ≤ (cA : Int) := by omega
  have e4 : (k : Int) ≤ (r.acks.length : Int) := by omega
  have e5 : (r.acks.length : Int) ≤ (cA : Int) := by omega
  clear c0
  refine wp_gen (FinA B w col r ⟨aS, cS, aD, cD, aH, cH, aW, cW, aY, cY, aB, cB, (some ⟨gA, 0, none⟩), cA⟩ X V k i) (fun _ _ dst _ _ h => by cases dst <;> exact h) (fun QQ hP KF => ?_) ?_
  ·have hK0 : BoxS V.heap.size V w.heap.size (rcV r ⟨aS, cS, aD, cD, aH, cH, aW, cW, aY, cY, aB, cB, (some ⟨gA, 0, none⟩), cA⟩) V := ⟨S0.out.k, Below.refl _ _⟩
   clear cK fK
   refine wp_region_last (S := BoxS V.heap.size V w.heap.size (rcV r ⟨aS, cS, aD, cD, aH, cH, aW, cW, aY, cY, aB, cB, (some ⟨gA, 0, none⟩), cA⟩)) 16 (by kernel_rfl) hK0.drew (fun hHeld => ?_)
   simp only [qz, Nat.reduceAdd]
   clear hK0
   refine planL.go [1, 2, 3, 4, 6, 7, 10, 11, 12, 13] ?_
   iterate 10 (apply planL.take (at_lit rfl) (by kernel_rfl) (by rfl) (fun c a w h => hP c a _ _ w h) hHeld; (· intro w9 hSw; have hq := hSw.blk.cell; clear hSw; go_simp; try with_reducible rfl); try simp only [qq])
   refine planL.fin ?_
   obtain ⟨da, hda⟩ : ∃ d : Option Addr, d = (if cA = k then some ⟨gA, 0, none⟩ else some ⟨gA, k * 2, none⟩) := ⟨_, rfl⟩
   rw [← hda]
   have DR := hid (show ReadAt V da (r.acks.length - k) (cA - k) 2 (flatA (X.A.drop k)) by rw [hda]; exact readA_drop (RDA.out) (Nat.le_of_lt hlt) XL.out HC2)
   clear hda
   obtain ⟨v0, hv0⟩ : ∃ v, v = V.drew := ⟨_, rfl⟩
   rw [← hv0] at hHeld ⊢
   have BV0 := hid hHeld.bel
   have KB0 := hid hHeld.blk
   clear hv0 hHeld
   refine wpLast_ready (rs := [0, 8]) (by kernel_rfl) (by simp) ?_
   refine AllLast.cons (at_lit rfl) (fun K hK => ?_) (AllLast.cons (at_lit rfl) (fun K hK => ?_) AllLast.nil)
   ·skip
    go_simp
    obtain ⟨v1, hv1⟩ : ∃ v, v = v0.alloc (.cells #[] 105) := ⟨_, rfl⟩
    have BV1 := hid (show Below V.heap.size V v1 by rw [hv1]; exact ext_alloc BV0.out _)
    have EX1 := hid (show Below v0.heap.size v0 v1 by rw [hv1]; exact ext_alloc (Below.refl _ _) _)
    have kA1 := hid (show Blk v1 v0.heap.size #[] 105 by rw [hv1]; exact Blk.new _ _ _)
    have KB1 := hid (KB0.out.ext EX1.out)
    rw [← hv1]
    refine hK.out _ _ ⟨KB1.out, BV1.out⟩ (fun _ => ?_)
    clear hK K hv1
    try simp only [qq]
    refine wpLast_ready (rs := [5, 8]) (by kernel_rfl) (by simp) ?_
    refine AllLast.cons (at_lit rfl) (fun K hK => ?_) (AllLast.cons (at_lit rfl) (fun K hK => ?_) AllLast.nil)
    ·skip
     rw [if_pos (by rfl)]
     refine wp_newA v0.heap.size (some ⟨gA, 0, none⟩) k cA (flatA (X.A.take k)) rfl rfl kA1.out (readA_take (RDA.out.ext BV1.out) (Nat.le_of_lt hlt) XL.out) (flatA_one _) (by omega) (fun a2 c2 v2 ow2 gr2 => ?_)
     have BV2 := hid (below_grow BV1.out gr2 (fun j hj => by simp only [Option.some.injEq] at hj; have := BV0.out.size; omega) BV1.out.size)
     have KB2 := hid (show Blk v2 w.heap.size (rcV r ⟨aS, cS, aD, cD, aH, cH, aW, cW, aY, cY, aB, cB, (some ⟨gA, 0, none⟩), cA⟩) 41 from (gr2.block _ KB1.out.lt (fun e => by simp only [Option.some.injEq] at e; have := SZ.out; have := BV0.out.size; omega)).trans KB1.out)
     have o2 := hid (RowZ.mk' (own_low ow2 (show V.heap.size ≤ _ by have := BV0.out.size; omega)))
     refine hK.out _ _ ⟨KB2.out, BV2.out⟩ (fun _ => ?_)
     clear hK K ow2
     try simp only [qq]
     clear gr2
     refine rdL 8 (by kernel_rfl) (at_lit rfl) (fun K hK => ?_)
     go_simp
     obtain ⟨v3, hv3⟩ : ∃ v, v = v2.alloc (.cells #[.int .i64 i, .slice none 0 0] 105) := ⟨_, rfl⟩
     have BV3 := hid (show Below V.heap.size V v3 by rw [hv3]; exact ext_alloc BV2.out _)
     have EX3 := hid (show Below v2.heap.size v2 v3 by rw [hv3]; exact ext_alloc (Below.refl _ _) _)
     have kN3 := hid (show Blk v3 v2.heap.size #[.int .i64 i, .slice none 0 0] 105 by rw [hv3]; exact Blk.new _ _ _)
     have KB3 := hid (KB2.out.ext EX3.out)
     rw [← hv3]
     refine hK.out _ _ ⟨KB3.out, BV3.out⟩ (fun _ => ?_)
     clear hK K hv3
     try simp only [qq]
     have o3 := hid (o2.out.ext EX3.out)
     refine rdL 9 (by kernel_rfl) (at_lit rfl) (fun K hK => ?_)
     rw [if_pos (by rfl)]
     refine wp_appA V.heap.size a2 k c2 (flatA (X.A.take k)) (some ⟨v2.heap.size, 0, none⟩) 1 1 [.int .i64 i, .slice none 0 0] rfl rfl o3.out.own (read_ack kN3.out) (fun u hu => by simp at hu; rcases hu with rfl | rfl <;> rfl) (by omega) BV3.out.size (fun a4 c4 v4 ow4 gr4 _ => ?_)
     have BV4 := hid (below_grow BV3.out gr4 (fun j hj => (o3.out.own.lt j hj).1) BV3.out.size)
     have KB4 := hid (show Blk v4 w.heap.size (rcV r ⟨aS, cS, aD, cD, aH, cH, aW, cW, aY, cY, aB, cB, (some ⟨gA, 0, none⟩), cA⟩) 41 from (gr4.block _ KB3.out.lt (fun e => by have := (o3.out.own.lt _ e.symm).1; have := SZ.out; omega)).trans KB3.out)
     have o4 := hid (RowZ.mk' ow4)
     clear gr4
     refine hK.out _ _ ⟨KB4.out, BV4.out⟩ (fun _ => ?_)
     clear hK K ow4
     try simp only [qq]
     refine rdL 14 (by kernel_rfl) (at_lit rfl) (fun K hK => ?_)
     rw [if_pos (by rfl)]
     refine wp_appA V.heap.size a4 (k + 1) c4 ((flatA (X.A.take k)) ++ [.int .i64 i, .slice none 0 0]) da (r.acks.length - k) (cA - k) (flatA (X.A.drop k)) rfl rfl o4.out.own (DR.out.ext BV4.out) (flatA_one _) (by omega) BV4.out.size (fun a5 c5 v5 ow5 gr5 _ => ?_)
     have BV5 := hid (below_grow BV4.out gr5 (fun j hj => (o4.out.own.lt j hj).1) BV4.out.size)
     have KB5 := hid (show Blk v5 w.heap.size (rcV r ⟨aS, cS, aD, cD, aH, cH, aW, cW, aY, cY, aB, cB, (some ⟨gA, 0, none⟩), cA⟩) 41 from (gr5.block _ KB4.out.lt (fun e => by have := (o4.out.own.lt _ e.symm).1; have := SZ.out; omega)).trans KB4.out)
     have o5 := hid (RowZ.mk' ow5)
     clear gr5
     refine hK.out _ _ ⟨KB5.out, BV5.out⟩ (fun _ => ?_)
     clear hK K ow5
     try simp only [qq]
     have hHeld : BoxS V.heap.size V w.heap.size (rcV r ⟨aS, cS, aD, cD, aH, cH, aW, cW, aY, cY, aB, cB, (some ⟨gA, 0, none⟩), cA⟩) v5 := ⟨KB5.out, BV5.out⟩
     have cB5 := KB5.out.cell
     have fB5 := KB5.out.free
     refine rdL 15 (by kernel_rfl) (at_lit rfl) (fun K hK => ?_)
     go_simp
     refine hK.out _ _ hHeld (fun hNew => ?_)
     clear hK K hNew
     try simp only [qq]
     refine wpLast_end (by kernel_rfl) (at_lit rfl) (by kernel_rfl) (fun K hK => ?_)
     go_simp
     refine hK.out _ _ ?_
     clear hK K cB5 fB5 hHeld
     obtain ⟨g9, hg9, hss⟩ := AckS.ins (K := k) S0.out HB.out HM.out BV5.out KB5.out o5.out (show k + 1 + (r.acks.length - k) = (insX X.A k i).length by simp only [insX, List.length_append, List.length_take, List.length_drop, List.length_cons, List.length_nil, XL.out]; try omega) (show (flatA (X.A.take k)) ++ [.int .i64 i, .slice none 0 0] ++ flatA (X.A.drop k) = flatA (insX X.A k i) by unfold insX; rw [flatA_app, flatA_app]; rfl) HW.out.1 INS.out
     subst hg9
     refine KF.out _ _ ⟨?_, ?_, ?_, ?_, ?_, ?_, ?_, ?_, ?_, ?_, ?_, ?_, ?_, ?_, ?_, ?_, g9, c5, ?_, hss⟩
     rotate_left 16
     simp only [qq]
     rfl
    skip
    go_simp
    obtain ⟨v6, hv6⟩ : ∃ v, v = v1.alloc (.cells #[.int .i64 i, .slice none 0 0] 105) := ⟨_, rfl⟩
    have BV6 := hid (show Below V.heap.size V v6 by rw [hv6]; exact ext_alloc BV1.out _)
    have EX6 := hid (show Below v1.heap.size v1 v6 by rw [hv6]; exact ext_alloc (Below.refl _ _) _)
    have kN6 := hid (show Blk v6 v1.heap.size #[.int .i64 i, .slice none 0 0] 105 by rw [hv6]; exact Blk.new _ _ _)
    have KB6 := hid (KB1.out.ext EX6.out)
    rw [← hv6]
    refine hK.out _ _ ⟨KB6.out, BV6.out⟩ (fun _ => ?_)
    clear hK K hv6
    try simp only [qq]
    have kA6 := hid (kA1.out.ext EX6.out)
    refine rdL 5 (by kernel_rfl) (at_lit rfl) (fun K hK => ?_)
    rw [if_pos (by rfl)]
    refine wp_newA v0.heap.size (some ⟨gA, 0, none⟩) k cA (flatA (X.A.take k)) rfl rfl kA6.out (readA_take (RDA.out.ext BV6.out) (Nat.le_of_lt hlt) XL.out) (flatA_one _) (by omega) (fun a7 c7 v7 ow7 gr7 => ?_)
    have BV7 := hid (below_grow BV6.out gr7 (fun j hj => by simp only [Option.some.injEq] at hj; have := BV0.out.size; have := BV1.out.size; omega) BV6.out.size)
    have KB7 := hid (show Blk v7 w.heap.size (rcV r ⟨aS, cS, aD, cD, aH, cH, aW, cW, aY, cY, aB, cB, (some ⟨gA, 0, none⟩), cA⟩) 41 from (gr7.block _ KB6.out.lt (fun e => by simp only [Option.some.injEq] at e; have := SZ.out; have := BV0.out.size; have := BV1.out.size; omega)).trans KB6.out)
    have o7 := hid (RowZ.mk' (own_low ow7 (show V.heap.size ≤ _ by have := BV0.out.size; have := BV1.out.size; omega)))
    refine hK.out _ _ ⟨KB7.out, BV7.out⟩ (fun _ => ?_)
    clear hK K ow7
    try simp only [qq]
    have kN7 := hid (show Blk v7 v1.heap.size #[.int .i64 i, .slice none 0 0] 105 from (gr7.block _ kN6.out.lt (fun e => by simp only [Option.some.injEq] at e; have := kA1.out.lt; omega)).trans kN6.out)
    clear gr7
    refine rdL 9 (by kernel_rfl) (at_lit rfl) (fun K hK => ?_)
    rw [if_pos (by rfl)]
    refine wp_appA V.heap.size a7 k c7 (flatA (X.A.take k)) (some ⟨v1.heap.size, 0, none⟩) 1 1 [.int .i64 i, .slice none 0 0] rfl rfl o7.out.own (read_ack kN7.out) (fun u hu => by simp at hu; rcases hu with rfl | rfl <;> rfl) (by omega) BV7.out.size (fun a8 c8 v8 ow8 gr8 _ => ?_)
    have BV8 := hid (below_grow BV7.out gr8 (fun j hj => (o7.out.own.lt j hj).1) BV7.out.size)
    have KB8 := hid (show Blk v8 w.heap.size (rcV r ⟨aS, cS, aD, cD, aH, cH, aW, cW, aY, cY, aB, cB, (some ⟨gA, 0, none⟩), cA⟩) 41 from (gr8.block _ KB7.out.lt (fun e => by have := (o7.out.own.lt _ e.symm).1; have := SZ.out; omega)).trans KB7.out)
    have o8 := hid (RowZ.mk' ow8)
    clear gr8
    refine hK.out _ _ ⟨KB8.out, BV8.out⟩ (fun _ => ?_)
    clear hK K ow8
    try simp only [qq]
    refine rdL 14 (by kernel_rfl) (at_lit rfl) (fun K hK => ?_)
    rw [if_pos (by rfl)]
    refine wp_appA V.heap.size a8 (k + 1) c8 ((flatA (X.A.take k)) ++ [.int .i64 i, .slice none 0 0]) da (r.acks.length - k) (cA - k) (flatA (X.A.drop k)) rfl rfl o8.out.own (DR.out.ext BV8.out) (flatA_one _) (by omega) BV8.out.size (fun a9 c9 v9 ow9 gr9 _ => ?_)
    have BV9 := hid (below_grow BV8.out gr9 (fun j hj => (o8.out.own.lt j hj).1) BV8.out.size)
    have KB9 := hid (show Blk v9 w.heap.size (rcV r ⟨aS, cS, aD, cD, aH, cH, aW, cW, aY, cY, aB, cB, (some ⟨gA, 0, none⟩), cA⟩) 41 from (gr9.block _ KB8.out.lt (fun e => by have := (o8.out.own.lt _ e.symm).1; have := SZ.out; omega)).trans KB8.out)
    have o9 := hid (RowZ.mk' ow9)
    clear gr9
    refine hK.out _ _ ⟨KB9.out, BV9.out⟩ (fun _ => ?_)
    clear hK K ow9
    try simp only [qq]
    have hHeld : BoxS V.heap.size V w.heap.size (rcV r ⟨aS, cS, aD, cD, aH, cH, aW, cW, aY, cY, aB, cB, (some ⟨gA, 0, none⟩), cA⟩) v9 := ⟨KB9.out, BV9.out⟩
    have cB9 := KB9.out.cell
    have fB9 := KB9.out.free
    refine rdL 15 (by kernel_rfl) (at_lit rfl) (fun K hK => ?_)
    go_simp
    refine hK.out _ _ hHeld (fun hNew => ?_)
    clear hK K hNew
    try simp only [qq]
    refine wpLast_end (by kernel_rfl) (at_lit rfl) (by kernel_rfl) (fun K hK => ?_)
    go_simp
    refine hK.out _ _ ?_
    clear hK K cB9 fB9 hHeld
    obtain ⟨g9, hg9, hss⟩ := AckS.ins (K := k) S0.out HB.out HM.out BV9.out KB9.out o9.out (show k + 1 + (r.acks.length - k) = (insX X.A k i).length by simp only [insX, List.length_append, List.length_take, List.length_drop, List.length_cons, List.length_nil, XL.out]; try omega) (show (flatA (X.A.take k)) ++ [.int .i64 i, .slice none 0 0] ++ flatA (X.A.drop k) = flatA (insX X.A k i) by unfold insX; rw [flatA_app, flatA_app]; rfl) HW.out.1 INS.out
    subst hg9
    refine KF.out _ _ ⟨?_, ?_, ?_, ?_, ?_, ?_, ?_, ?_, ?_, ?_, ?_, ?_, ?_, ?_, ?_, ?_, g9, c9, ?_, hss⟩
    rotate_left 16
    simp only [qq]
    rfl
   skip
   go_simp
   obtain ⟨v10, hv10⟩ : ∃ v, v = v0.alloc (.cells #[.int .i64 i, .slice none 0 0] 105) := ⟨_, rfl⟩
   have BV10 := hid (show Below V.heap.size V v10 by rw [hv10]; exact ext_alloc BV0.out _)
   have EX10 := hid (show Below v0.heap.size v0 v10 by rw [hv10]; exact ext_alloc (Below.refl _ _) _)
   have kN10 := hid (show Blk v10 v0.heap.size #[.int .i64 i, .slice none 0 0] 105 by rw [hv10]; exact Blk.new _ _ _)
   have KB10 := hid (KB0.out.ext EX10.out)
   rw [← hv10]
   refine hK.out _ _ ⟨KB10.out, BV10.out⟩ (fun _ => ?_)
   clear hK K hv10
   try simp only [qq]
   refine rdL 0 (by kernel_rfl) (at_lit rfl) (fun K hK => ?_)
   go_simp
   obtain ⟨v11, hv11⟩ : ∃ v, v = v10.alloc (.cells #[] 105) := ⟨_, rfl⟩
   have BV11 := hid (show Below V.heap.size V v11 by rw [hv11]; exact ext_alloc BV10.out _)
   have EX11 := hid (show Below v10.heap.size v10 v11 by rw [hv11]; exact ext_alloc (Below.refl _ _) _)
   have kA11 := hid (show Blk v11 v10.heap.size #[] 105 by rw [hv11]; exact Blk.new _ _ _)
   have KB11 := hid (KB10.out.ext EX11.out)
   rw [← hv11]
   refine hK.out _ _ ⟨KB11.out, BV11.out⟩ (fun _ => ?_)
   clear hK K hv11
   try simp only [qq]
   have kN11 := hid (kN10.out.ext EX11.out)
   refine rdL 5 (by kernel_rfl) (at_lit rfl) (fun K hK => ?_)
   rw [if_pos (by rfl)]
   refine wp_newA v10.heap.size (some ⟨gA, 0, none⟩) k cA (flatA (X.A.take k)) rfl rfl kA11.out (readA_take (RDA.out.ext BV11.out) (Nat.le_of_lt hlt) XL.out) (flatA_one _) (by omega) (fun a12 c12 v12 ow12 gr12 => ?_)
   have BV12 := hid (below_grow BV11.out gr12 (fun j hj => by simp only [Option.some.injEq] at hj; have := BV0.out.size; have := BV10.out.size; omega) BV11.out.size)
   have KB12 := hid (show Blk v12 w.heap.size (rcV r ⟨aS, cS, aD, cD, aH, cH, aW, cW, aY, cY, aB, cB, (some ⟨gA, 0, none⟩), cA⟩) 41 from (gr12.block _ KB11.out.lt (fun e => by simp only [Option.some.injEq] at e; have := SZ.out; have := BV0.out.size; have := BV10.out.size; omega)).trans KB11.out)
   have o12 := hid (RowZ.mk' (own_low ow12 (show V.heap.size ≤ _ by have := BV0.out.size; have := BV10.out.size; omega)))
   refine hK.out _ _ ⟨KB12.out, BV12.out⟩ (fun _ => ?_)
   clear hK K ow12
   try simp only [qq]
   have kN12 := hid (show Blk v12 v0.heap.size #[.int .i64 i, .slice none 0 0] 105 from (gr12.block _ kN11.out.lt (fun e => by simp only [Option.some.injEq] at e; have := kN10.out.lt; omega)).trans kN11.out)
   clear gr12
   refine rdL 9 (by kernel_rfl) (at_lit rfl) (fun K hK => ?_)
   rw [if_pos (by rfl)]
   refine wp_appA V.heap.size a12 k c12 (flatA (X.A.take k)) (some ⟨v0.heap.size, 0, none⟩) 1 1 [.int .i64 i, .slice none 0 0] rfl rfl o12.out.own (read_ack kN12.out) (fun u hu => by simp at hu; rcases hu with rfl | rfl <;> rfl) (by omega) BV12.out.size (fun a13 c13 v13 ow13 gr13 _ => ?_)
   have BV13 := hid (below_grow BV12.out gr13 (fun j hj => (o12.out.own.lt j hj).1) BV12.out.size)
   have KB13 := hid (show Blk v13 w.heap.size (rcV r ⟨aS, cS, aD, cD, aH, cH, aW, cW, aY, cY, aB, cB, (some ⟨gA, 0, none⟩), cA⟩) 41 from (gr13.block _ KB12.out.lt (fun e => by have := (o12.out.own.lt _ e.symm).1; have := SZ.out; omega)).trans KB12.out)
   have o13 := hid (RowZ.mk' ow13)
   clear gr13
   refine hK.out _ _ ⟨KB13.out, BV13.out⟩ (fun _ => ?_)
   clear hK K ow13
   try simp only [qq]
   refine rdL 14 (by kernel_rfl) (at_lit rfl) (fun K hK => ?_)
   rw [if_pos (by rfl)]
   refine wp_appA V.heap.size a13 (k + 1) c13 ((flatA (X.A.take k)) ++ [.int .i64 i, .slice none 0 0]) da (r.acks.length - k) (cA - k) (flatA (X.A.drop k)) rfl rfl o13.out.own (DR.out.ext BV13.out) (flatA_one _) (by omega) BV13.out.size (fun a14 c14 v14 ow14 gr14 _ => ?_)
   have BV14 := hid (below_grow BV13.out gr14 (fun j hj => (o13.out.own.lt j hj).1) BV13.out.size)
   have KB14 := hid (show Blk v14 w.heap.size (rcV r ⟨aS, cS, aD, cD, aH, cH, aW, cW, aY, cY, aB, cB, (some ⟨gA, 0, none⟩), cA⟩) 41 from (gr14.block _ KB13.out.lt (fun e => by have := (o13.out.own.lt _ e.symm).1; have := SZ.out; omega)).trans KB13.out)
   have o14 := hid (RowZ.mk' ow14)
   clear gr14
   refine hK.out _ _ ⟨KB14.out, BV14.out⟩ (fun _ => ?_)
   clear hK K ow14
   try simp only [qq]
   have hHeld : BoxS V.heap.size V w.heap.size (rcV r ⟨aS, cS, aD, cD, aH, cH, aW, cW, aY, cY, aB, cB, (some ⟨gA, 0, none⟩), cA⟩) v14 := ⟨KB14.out, BV14.out⟩
   have cB14 := KB14.out.cell
   have fB14 := KB14.out.free
   refine rdL 15 (by kernel_rfl) (at_lit rfl) (fun K hK => ?_)
   go_simp
   refine hK.out _ _ hHeld (fun hNew => ?_)
   clear hK K hNew
   try simp only [qq]
   refine wpLast_end (by kernel_rfl) (at_lit rfl) (by kernel_rfl) (fun K hK => ?_)
   go_simp
   refine hK.out _ _ ?_
   clear hK K cB14 fB14 hHeld
   obtain ⟨g9, hg9, hss⟩ := AckS.ins (K := k) S0.out HB.out HM.out BV14.out KB14.out o14.out (show k + 1 + (r.acks.length - k) = (insX X.A k i).length by simp only [insX, List.length_append, List.length_take, List.length_drop, List.length_cons, List.length_nil, XL.out]; try omega) (show (flatA (X.A.take k)) ++ [.int .i64 i, .slice none 0 0] ++ flatA (X.A.drop k) = flatA (insX X.A k i) by unfold insX; rw [flatA_app, flatA_app]; rfl) HW.out.1 INS.out
   subst hg9
   refine KF.out _ _ ⟨?_, ?_, ?_, ?_, ?_, ?_, ?_, ?_, ?_, ?_, ?_, ?_, ?_, ?_, ?_, ?_, g9, c14, ?_, hss⟩
   rotate_left 16
   simp only [qq]
   rfl
  rintro a9 v9 ⟨u0, u1, u2, u3, u4, u5, u6, u7, u8, u9, u10, u11, u12, u13, u14, u15, g9, c9, rfl, hss⟩
  try simp only [qq]
  have SS := hid (show AckS B w col { r with acks := insL r.acks k i } ⟨aS, cS, aD, cD, aH, cH, aW, cW, aY, cY, aB, cB, some ⟨g9, 0, none⟩, c9⟩ ⟨X.H, insX X.A k i⟩ (colN (some ⟨g9, 0, none⟩) 6 (colF V.heap.size (colF w.heap.size col))) v9 from hss)
  clear hss
  obtain ⟨x2, hx2⟩ : ∃ x2 : Ap, x2 = ((i, []), none, 0) := ⟨_, rfl⟩
  obtain ⟨X2, hX2⟩ : ∃ X2 : RcX, X2 = ⟨X.H, insX X.A k i⟩ := ⟨_, rfl⟩
  obtain ⟨r2, hr2⟩ : ∃ r2 : Rc, r2 = { r with acks := insL r.acks k i } := ⟨_, rfl⟩
  obtain ⟨col2, hc2⟩ : ∃ c : Nat → Nat, c = (colN (some ⟨g9, 0, none⟩) 6 (colF V.heap.size (colF w.heap.size col))) := ⟨_, rfl⟩
  have HX2 := hid (show X2.A[k]? = some x2 by rw [hX2, hx2]; exact INS.out)
  have RS2 := hid (show RcSmall r2 by rw [hr2]; exact ⟨HS.out.lS, HS.out.lD, HS.out.lH, HS.out.lW, HS.out.lY, HS.out.lB, by rw [insL_len (by omega)]; omega, HS.out.nH, small_ins HS.out.nA⟩)
  have HD2 := hid (show 0 ≤ r2.dk ∧ r2.dk ≤ r2.ds.length by rw [hr2]; exact HD.out)
  have FL := hid (show x2.1.2.length ≤ 100000 by rw [hx2]; exact Nat.zero_le _)
  have FIN := hid (show ackR r i f = advR { r2 with acks := r2.acks.set k (x2.1.1, addL x2.1.2 f) } by rw [hr2, hx2]; exact FIN0.out)
  have NL := hid (show (insL r.acks k i).length = r2.acks.length by rw [hr2])
  have e8 : ((k : Nat) : Int) < (r2.acks.length : Int) := by rw [← NL.out, insL_len (by omega)]; omega
  rw [← hr2, ← hX2, ← hc2] at SS
  try rw [NL.out]
  clear hx2 hX2 hr2 hc2 FIN0 NL INS
  have cK := SS.out.k.cell
  have fK := SS.out.k.free
  go_wp2_with fail
  clear cK fK
  obtain ⟨gZ, ez, _, cc1, _⟩ := SS.out.has.a.cellA HX2.out (q := 1) (by omega) rfl
  have ez2 : g9 = gZ := by simpa using ez
  subst ez2
  have hK0 : AckT v9 w.heap.size (rcV r2 ⟨aS, cS, aD, cD, aH, cH, aW, cW, aY, cY, aB, cB, some ⟨g9, 0, none⟩, c9⟩) ⟨g9, k * 2 + 1, none⟩ (.slice x2.2.1 x2.1.2.length x2.2.2) v9 := ⟨SS.out.k, cc1, Below.refl _ _⟩
  have IR := hid (SS.out.has.ai.row _ (List.mem_of_getElem? HX2.out))
  have HAC := hid SS.out.has.fresh
  clear cc1 ez
  refine wp_region_last (S := AckT v9 w.heap.size (rcV r2 ⟨aS, cS, aD, cD, aH, cH, aW, cW, aY, cY, aB, cB, some ⟨g9, 0, none⟩, c9⟩) ⟨g9, k * 2 + 1, none⟩ (.slice x2.2.1 x2.1.2.length x2.2.2)) 13 (by kernel_rfl) hK0.drew (fun hHeld => ?_)
  simp only [qz, Nat.reduceAdd]
  clear hK0
  refine planL.go [0, 1, 2, 3, 4, 5, 6, 7, 8, 9] ?_
  iterate 10 (apply planL.take (at_lit rfl) (by kernel_rfl) (by rfl) (fun _ _ _ h => h) hHeld; (· intro w9 hSw; have hq := hSw.blk.cell; have hc := hSw.cel; clear hSw; go_simp; try with_reducible rfl); try simp only [qq])
  refine planL.fin ?_
  refine rdL 10 (by kernel_rfl) (at_lit rfl) (fun K hK => ?_)
  go_simp
  refine (specAdd x2.2.1 x2.1.2 x2.2.2 f _ (by have := FL.out; omega) IR.out.len.2 (IR.out.read.ext (hHeld.bel))).mono ?_
  rintro e v6 ⟨a6, c6, rfl, hor, hb6⟩
  have OR6 := hid hor
  have B6 := hid (ext_trans hHeld.bel hb6)
  clear hor
  go_wp2_with fail
  refine hK.out _ _ (hHeld.ext hb6) (fun hNew => ?_)
  clear hK K hHeld hb6
  have hHeld := hNew
  clear hNew
  try simp only [qq]
  refine rdL 11 (by kernel_rfl) (at_lit rfl) (fun K hK => ?_)
  go_simp
  refine hK.out _ _ hHeld (fun hNew => ?_)
  clear hK K hNew
  try simp only [qq]
  refine planL.go [12] ?_
  iterate 1 (apply planL.take (at_lit rfl) (by kernel_rfl) (by rfl) (fun _ _ _ h => h) hHeld; (· intro w9 hSw; have hq := hSw.blk.cell; have hc := hSw.cel; clear hSw; go_simp; try with_reducible rfl); try simp only [qq])
  refine planL.fin ?_
  have H6 := hid (HAC.out.ext B6.out)
  obtain ⟨g6, e6, _, d6, f6⟩ := H6.out.a.cellA HX2.out (q := 1) (by omega) rfl
  have e6' : g9 = g6 := by simpa using e6
  subst e6'
  clear e6 hHeld
  refine wpLast_end (by kernel_rfl) (at_lit rfl) (by kernel_rfl) (fun K hK => ?_)
  go_simp
  refine hK.out _ _ ?_
  clear hK K d6 f6
  obtain ⟨X7, col7, has7, cl7⟩ := H6.out.took (lo := v9.heap.size) (hi := v6.heap.size) (a2 := a6) (c2 := c6) (fl := addL x2.1.2 f) HX2.out rfl (OR6.out.imp id (fun h => h)) (Nat.le_trans HB.out (by have := SS.out.z.lt; omega)) (fun b hb => by rw [colF_new hb]; omega) (by have := addL_len x2.1.2 f; have := FL.out; unfold maxLen; omega) (addL_good (SS.out.has.gd.a k _ (by rw [← SS.out.has.am, List.getElem?_map, HX2.out]; rfl)).2.2 HW.out.2)
  have H7 := hid has7
  have CL7 := hid cl7
  clear has7 cl7 OR6 H6 HAC
  obtain ⟨v7, hv7⟩ : ∃ v, v = v6.setCell ⟨g9, k * 2 + 1, none⟩ (.slice a6 (addL x2.1.2 f).length c6) := ⟨_, rfl⟩
  rw [← hv7] at H7 ⊢
  have GC := hid (show col2 g9 = 6 from SS.out.has.a.col _ rfl)
  have GB := hid (show B ≤ g9 from (SS.out.has.a.lt _ rfl).1)
  have NE := hid (show ∀ b, 8 < col2 b → b ≠ g9 from fun b h8 e => by rw [e, GC.out] at h8; omega)
  have HP := hid (show ∀ b, b < v9.heap.size → b ≠ g9 → v7.heap[b]? = v9.heap[b]? from fun b hb hne => by rw [hv7]; exact (heap_setCell_other v6 ⟨g9, k * 2 + 1, none⟩ b _ hne).trans (B6.out.block b hb))
  have B7 := hid (show Below B w v7 by rw [hv7]; exact below_set (SS.out.bel.trans (B6.out.mono (Nat.le_trans HB.out (by have := SS.out.z.lt; omega)))) GB.out _)
  obtain ⟨r3, hr3⟩ : ∃ r3 : Rc, r3 = { r2 with acks := r2.acks.set k (x2.1.1, addL x2.1.2 f) } := ⟨_, rfl⟩
  rw [← hr3] at H7
  have FIN3 := hid (show ackR r i f = advR r3 by rw [hr3]; exact FIN.out)
  have SM3 := hid (show RcSmall r3 by rw [hr3]; exact ⟨RS2.out.lS, RS2.out.lD, RS2.out.lH, RS2.out.lW, RS2.out.lY, RS2.out.lB, by simp only [List.length_set]; exact RS2.out.lA, RS2.out.nH, small_set RS2.out.nA (by have := addL_len x2.1.2 f; have := FL.out; simp only; omega)⟩)
  have DK3 := hid (show 0 ≤ r3.dk ∧ r3.dk ≤ r3.ds.length by rw [hr3]; exact HD2.out)
  have K7 : Blk v7 w.heap.size (rcV r3 ⟨aS, cS, aD, cD, aH, cH, aW, cW, aY, cY, aB, cB, some ⟨g9, 0, none⟩, c9⟩) 41 := blk_eq ((HP.out _ SS.out.k.lt (NE.out _ SS.out.c0)).trans SS.out.k) (by rw [hr3]; simp)
  have Z7 := hid (show Blk v7 (w.heap.size + 1) zRc 41 from (HP.out _ SS.out.z.lt (NE.out _ SS.out.c1)).trans SS.out.z)
  clear hv7 B6 hr3
  go_wp2_with ((with_reducible refine wpList_load_rec w.heap.size (rcV r3 ⟨aS, cS, aD, cD, aH, cH, aW, cW, aY, cY, aB, cB, some ⟨g9, 0, none⟩, c9⟩) rfl ?_ ?_ ?_); (· rfl); (· exact K7))
  refine (specAdvance B r3 ⟨aS, cS, aD, cD, aH, cH, aW, cW, aY, cY, aB, cB, some ⟨g9, 0, none⟩, c9⟩ X7 col7 _ (Nat.le_trans HB.out (by have := K7.lt; omega)) DK3.out.1 DK3.out.2 SM3.out H7.out).mono ?_
  obtain ⟨r4, hr4⟩ : ∃ r4, r4 = advR r3 := ⟨_, rfl⟩
  rw [← hr4]
  have FIN4 := hid (FIN3.out.trans hr4.symm)
  clear hr4
  rintro e w8 ⟨p8, X8, col8, rfl, has8, hb8, ot8⟩
  have z8 := (ot8 (w.heap.size + 1) Z7.out.lt (CL7.out _ SS.out.z.lt (by rw [colF_old SS.out.z.lt]; exact SS.out.c1)))
  have k8 : Blk w8 (w.heap.size + 1) zRc 41 := z8.1.trans Z7.out
  go_wp2_with ((with_reducible refine wpList_store_rec_at (w.heap.size + 1) zRc (rcV r4 p8) rfl rfl ?_ ?_ ?_ ?_ ?_); (· rfl); (· rfl); (· exact k8); (· simp [Value.oneCell']))
  have hz := setRow_heap _ (w.heap.size + 1) _ (rcV r4 p8) _ _ k8
  refine ret_cell (ty := 41) Tryz.results80 (w.heap.size + 1) (rcV r4 p8) _ ?_ ?_ hz Tryz.underlying41 rfl (by kernel_rfl) ?_
  ·rfl
  ·rfl
  rw [FIN4.out]
  refine ⟨p8, X8, col8, rfl, has8.setRow z8.2 _, below_setRow' (B7.out.trans hb8) (by have := HB.out; omega) _, fun b hb h8 => ?_⟩
  obtain ⟨o1, o2⟩ := SS.out.oth b hb h8
  have bz : b < v9.heap.size := by have := SS.out.z.lt; omega
  obtain ⟨q1, q2⟩ := ot8 b (by have := Z7.out.lt; omega) (CL7.out b bz (by rw [colF_old bz]; exact o2))
  exact ⟨(setRow_other _ _ b _ (by omega)).trans (q1.trans ((HP.out b bz (NE.out b o2)).trans o1)), q2⟩
 have e2 : ¬ (k : Int) < (r.acks.length : Int) := by omega
 obtain rfl : k = r.acks.length := by omega
 rcases (S0.out.has.a.form).symm with ⟨g0, cur0, ea0, _⟩ | h0
 ·skip
  have XL := hid (show X.A.length = r.acks.length by rw [← HM.out, List.length_map])
  dsimp only at ea0
  subst ea0
  have RDA := hid S0.out.has.a.read
  have HC2 := HC.out
  try dsimp only at HC2
  have INS := hid (show (insX X.A r.acks.length i)[r.acks.length]? = some (((i, []), none, 0) : Ap) by
   unfold insX
   rw [List.append_assoc, List.getElem?_append_right (by simp; omega)]
   simp [Nat.min_eq_left (show r.acks.length ≤ X.A.length by rw [XL.out]; omega)])
  have FIN0 := hid (show ackR r i f = advR { r with acks := (insL r.acks r.acks.length i).set r.acks.length (i, addL [] f) } by unfold ackR; rw [ackL_new hall.out (Nat.le_refl _) (fun y hy => by rw [List.getElem?_eq_none (Nat.le_refl _)] at hy; simp at hy)]; rfl)
  have e3 : (r.acks.length : Int) ≤ (cA : Int) := by omega
  go_wp2_with fail
  refine wp_gen (FinA B w col r ⟨aS, cS, aD, cD, aH, cH, aW, cW, aY, cY, aB, cB, (some ⟨g0, 0, none⟩), cA⟩ X V r.acks.length i) (fun _ _ dst _ _ h => by cases dst <;> exact h) (fun QQ hP KF => ?_) ?_
  ·have hK0 : BoxS V.heap.size V w.heap.size (rcV r ⟨aS, cS, aD, cD, aH, cH, aW, cW, aY, cY, aB, cB, (some ⟨g0, 0, none⟩), cA⟩) V := ⟨S0.out.k, Below.refl _ _⟩
   clear cK fK
   refine wp_region_last (S := BoxS V.heap.size V w.heap.size (rcV r ⟨aS, cS, aD, cD, aH, cH, aW, cW, aY, cY, aB, cB, (some ⟨g0, 0, none⟩), cA⟩)) 16 (by kernel_rfl) hK0.drew (fun hHeld => ?_)
   simp only [qz, Nat.reduceAdd]
   clear hK0
   refine planL.go [1, 2, 3, 4, 6, 7, 10, 11, 12, 13] ?_
   iterate 10 (apply planL.take (at_lit rfl) (by kernel_rfl) (by rfl) (fun c a w h => hP c a _ _ w h) hHeld; (· intro w9 hSw; have hq := hSw.blk.cell; clear hSw; go_simp; try with_reducible rfl); try simp only [qq])
   refine planL.fin ?_
   obtain ⟨da, hda⟩ : ∃ d : Option Addr, d = (if cA = r.acks.length then some ⟨g0, 0, none⟩ else some ⟨g0, r.acks.length * 2, none⟩) := ⟨_, rfl⟩
   rw [← hda]
   have DR := hid (show ReadAt V da 0 (cA - r.acks.length) 2 (flatA (X.A.drop r.acks.length)) by rw [hda]; exact (by have h9 := readA_drop (c' := cA - r.acks.length) RDA.out (Nat.le_refl _) XL.out HC2; rw [Nat.sub_self] at h9; exact h9))
   clear hda
   obtain ⟨v0, hv0⟩ : ∃ v, v = V.drew := ⟨_, rfl⟩
   rw [← hv0] at hHeld ⊢
   have BV0 := hid hHeld.bel
   have KB0 := hid hHeld.blk
   clear hv0 hHeld
   refine wpLast_ready (rs := [0, 8]) (by kernel_rfl) (by simp) ?_
   refine AllLast.cons (at_lit rfl) (fun K hK => ?_) (AllLast.cons (at_lit rfl) (fun K hK => ?_) AllLast.nil)
   ·skip
    go_simp
    obtain ⟨v1, hv1⟩ : ∃ v, v = v0.alloc (.cells #[] 105) := ⟨_, rfl⟩
    have BV1 := hid (show Below V.heap.size V v1 by rw [hv1]; exact ext_alloc BV0.out _)
    have EX1 := hid (show Below v0.heap.size v0 v1 by rw [hv1]; exact ext_alloc (Below.refl _ _) _)
    have kA1 := hid (show Blk v1 v0.heap.size #[] 105 by rw [hv1]; exact Blk.new _ _ _)
    have KB1 := hid (KB0.out.ext EX1.out)
    rw [← hv1]
    refine hK.out _ _ ⟨KB1.out, BV1.out⟩ (fun _ => ?_)
    clear hK K hv1
    try simp only [qq]
    refine wpLast_ready (rs := [5, 8]) (by kernel_rfl) (by simp) ?_
    refine AllLast.cons (at_lit rfl) (fun K hK => ?_) (AllLast.cons (at_lit rfl) (fun K hK => ?_) AllLast.nil)
    ·skip
     rw [if_pos (by rfl)]
     refine wp_newA v0.heap.size (some ⟨g0, 0, none⟩) r.acks.length cA (flatA (X.A.take r.acks.length)) rfl rfl kA1.out (readA_take (RDA.out.ext BV1.out) (Nat.le_refl _) XL.out) (flatA_one _) (by omega) (fun a2 c2 v2 ow2 gr2 => ?_)
     have BV2 := hid (below_grow BV1.out gr2 (fun j hj => by simp only [Option.some.injEq] at hj; have := BV0.out.size; omega) BV1.out.size)
     have KB2 := hid (show Blk v2 w.heap.size (rcV r ⟨aS, cS, aD, cD, aH, cH, aW, cW, aY, cY, aB, cB, (some ⟨g0, 0, none⟩), cA⟩) 41 from (gr2.block _ KB1.out.lt (fun e => by simp only [Option.some.injEq] at e; have := SZ.out; have := BV0.out.size; omega)).trans KB1.out)
     have o2 := hid (RowZ.mk' (own_low ow2 (show V.heap.size ≤ _ by have := BV0.out.size; omega)))
     refine hK.out _ _ ⟨KB2.out, BV2.out⟩ (fun _ => ?_)
     clear hK K ow2
     try simp only [qq]
     clear gr2
     refine rdL 8 (by kernel_rfl) (at_lit rfl) (fun K hK => ?_)
     go_simp
     obtain ⟨v3, hv3⟩ : ∃ v, v = v2.alloc (.cells #[.int .i64 i, .slice none 0 0] 105) := ⟨_, rfl⟩
     have BV3 := hid (show Below V.heap.size V v3 by rw [hv3]; exact ext_alloc BV2.out _)
     have EX3 := hid (show Below v2.heap.size v2 v3 by rw [hv3]; exact ext_alloc (Below.refl _ _) _)
     have kN3 := hid (show Blk v3 v2.heap.size #[.int .i64 i, .slice none 0 0] 105 by rw [hv3]; exact Blk.new _ _ _)
     have KB3 := hid (KB2.out.ext EX3.out)
     rw [← hv3]
     refine hK.out _ _ ⟨KB3.out, BV3.out⟩ (fun _ => ?_)
     clear hK K hv3
     try simp only [qq]
     have o3 := hid (o2.out.ext EX3.out)
     refine rdL 9 (by kernel_rfl) (at_lit rfl) (fun K hK => ?_)
     rw [if_pos (by rfl)]
     refine wp_appA V.heap.size a2 r.acks.length c2 (flatA (X.A.take r.acks.length)) (some ⟨v2.heap.size, 0, none⟩) 1 1 [.int .i64 i, .slice none 0 0] rfl rfl o3.out.own (read_ack kN3.out) (fun u hu => by simp at hu; rcases hu with rfl | rfl <;> rfl) (by omega) BV3.out.size (fun a4 c4 v4 ow4 gr4 _ => ?_)
     have BV4 := hid (below_grow BV3.out gr4 (fun j hj => (o3.out.own.lt j hj).1) BV3.out.size)
     have KB4 := hid (show Blk v4 w.heap.size (rcV r ⟨aS, cS, aD, cD, aH, cH, aW, cW, aY, cY, aB, cB, (some ⟨g0, 0, none⟩), cA⟩) 41 from (gr4.block _ KB3.out.lt (fun e => by have := (o3.out.own.lt _ e.symm).1; have := SZ.out; omega)).trans KB3.out)
     have o4 := hid (RowZ.mk' ow4)
     clear gr4
     refine hK.out _ _ ⟨KB4.out, BV4.out⟩ (fun _ => ?_)
     clear hK K ow4
     try simp only [qq]
     refine rdL 14 (by kernel_rfl) (at_lit rfl) (fun K hK => ?_)
     rw [if_pos (by rfl)]
     refine wp_appA V.heap.size a4 (r.acks.length + 1) c4 ((flatA (X.A.take r.acks.length)) ++ [.int .i64 i, .slice none 0 0]) da 0 (cA - r.acks.length) (flatA (X.A.drop r.acks.length)) rfl rfl o4.out.own (DR.out.ext BV4.out) (flatA_one _) (by omega) BV4.out.size (fun a5 c5 v5 ow5 gr5 _ => ?_)
     have BV5 := hid (below_grow BV4.out gr5 (fun j hj => (o4.out.own.lt j hj).1) BV4.out.size)
     have KB5 := hid (show Blk v5 w.heap.size (rcV r ⟨aS, cS, aD, cD, aH, cH, aW, cW, aY, cY, aB, cB, (some ⟨g0, 0, none⟩), cA⟩) 41 from (gr5.block _ KB4.out.lt (fun e => by have := (o4.out.own.lt _ e.symm).1; have := SZ.out; omega)).trans KB4.out)
     have o5 := hid (RowZ.mk' ow5)
     clear gr5
     refine hK.out _ _ ⟨KB5.out, BV5.out⟩ (fun _ => ?_)
     clear hK K ow5
     try simp only [qq]
     have hHeld : BoxS V.heap.size V w.heap.size (rcV r ⟨aS, cS, aD, cD, aH, cH, aW, cW, aY, cY, aB, cB, (some ⟨g0, 0, none⟩), cA⟩) v5 := ⟨KB5.out, BV5.out⟩
     have cB5 := KB5.out.cell
     have fB5 := KB5.out.free
     refine rdL 15 (by kernel_rfl) (at_lit rfl) (fun K hK => ?_)
     go_simp
     refine hK.out _ _ hHeld (fun hNew => ?_)
     clear hK K hNew
     try simp only [qq]
     refine wpLast_end (by kernel_rfl) (at_lit rfl) (by kernel_rfl) (fun K hK => ?_)
     go_simp
     refine hK.out _ _ ?_
     clear hK K cB5 fB5 hHeld
     obtain ⟨g9, hg9, hss⟩ := AckS.ins (K := r.acks.length) S0.out HB.out HM.out BV5.out KB5.out o5.out (show r.acks.length + 1 + 0 = (insX X.A r.acks.length i).length by simp only [insX, List.length_append, List.length_take, List.length_drop, List.length_cons, List.length_nil, XL.out]; try omega) (show (flatA (X.A.take r.acks.length)) ++ [.int .i64 i, .slice none 0 0] ++ flatA (X.A.drop r.acks.length) = flatA (insX X.A r.acks.length i) by unfold insX; rw [flatA_app, flatA_app]; rfl) HW.out.1 INS.out
     subst hg9
     refine KF.out _ _ ⟨?_, ?_, ?_, ?_, ?_, ?_, ?_, ?_, ?_, ?_, ?_, ?_, ?_, ?_, ?_, ?_, g9, c5, ?_, hss⟩
     rotate_left 16
     simp only [qq]
     rfl
    skip
    go_simp
    obtain ⟨v6, hv6⟩ : ∃ v, v = v1.alloc (.cells #[.int .i64 i, .slice none 0 0] 105) := ⟨_, rfl⟩
    have BV6 := hid (show Below V.heap.size V v6 by rw [hv6]; exact ext_alloc BV1.out _)
    have EX6 := hid (show Below v1.heap.size v1 v6 by rw [hv6]; exact ext_alloc (Below.refl _ _) _)
    have kN6 := hid (show Blk v6 v1.heap.size #[.int .i64 i, .slice none 0 0] 105 by rw [hv6]; exact Blk.new _ _ _)
    have KB6 := hid (KB1.out.ext EX6.out)
    rw [← hv6]
    refine hK.out _ _ ⟨KB6.out, BV6.out⟩ (fun _ => ?_)
    clear hK K hv6
    try simp only [qq]
    have kA6 := hid (kA1.out.ext EX6.out)
    refine rdL 5 (by kernel_rfl) (at_lit rfl) (fun K hK => ?_)
    rw [if_pos (by rfl)]
    refine wp_newA v0.heap.size (some ⟨g0, 0, none⟩) r.acks.length cA (flatA (X.A.take r.acks.length)) rfl rfl kA6.out (readA_take (RDA.out.ext BV6.out) (Nat.le_refl _) XL.out) (flatA_one _) (by omega) (fun a7 c7 v7 ow7 gr7 => ?_)
    have BV7 := hid (below_grow BV6.out gr7 (fun j hj => by simp only [Option.some.injEq] at hj; have := BV0.out.size; have := BV1.out.size; omega) BV6.out.size)
    have KB7 := hid (show Blk v7 w.heap.size (rcV r ⟨aS, cS, aD, cD, aH, cH, aW, cW, aY, cY, aB, cB, (some ⟨g0, 0, none⟩), cA⟩) 41 from (gr7.block _ KB6.out.lt (fun e => by simp only [Option.some.injEq] at e; have := SZ.out; have := BV0.out.size; have := BV1.out.size; omega)).trans KB6.out)
    have o7 := hid (RowZ.mk' (own_low ow7 (show V.heap.size ≤ _ by have := BV0.out.size; have := BV1.out.size; omega)))
    refine hK.out _ _ ⟨KB7.out, BV7.out⟩ (fun _ => ?_)
    clear hK K ow7
    try simp only [qq]
    have kN7 := hid (show Blk v7 v1.heap.size #[.int .i64 i, .slice none 0 0] 105 from (gr7.block _ kN6.out.lt (fun e => by simp only [Option.some.injEq] at e; have := kA1.out.lt; omega)).trans kN6.out)
    clear gr7
    refine rdL 9 (by kernel_rfl) (at_lit rfl) (fun K hK => ?_)
    rw [if_pos (by rfl)]
    refine wp_appA V.heap.size a7 r.acks.length c7 (flatA (X.A.take r.acks.length)) (some ⟨v1.heap.size, 0, none⟩) 1 1 [.int .i64 i, .slice none 0 0] rfl rfl o7.out.own (read_ack kN7.out) (fun u hu => by simp at hu; rcases hu with rfl | rfl <;> rfl) (by omega) BV7.out.size (fun a8 c8 v8 ow8 gr8 _ => ?_)
    have BV8 := hid (below_grow BV7.out gr8 (fun j hj => (o7.out.own.lt j hj).1) BV7.out.size)
    have KB8 := hid (show Blk v8 w.heap.size (rcV r ⟨aS, cS, aD, cD, aH, cH, aW, cW, aY, cY, aB, cB, (some ⟨g0, 0, none⟩), cA⟩) 41 from (gr8.block _ KB7.out.lt (fun e => by have := (o7.out.own.lt _ e.symm).1; have := SZ.out; omega)).trans KB7.out)
    have o8 := hid (RowZ.mk' ow8)
    clear gr8
    refine hK.out _ _ ⟨KB8.out, BV8.out⟩ (fun _ => ?_)
    clear hK K ow8
    try simp only [qq]
    refine rdL 14 (by kernel_rfl) (at_lit rfl) (fun K hK => ?_)
    rw [if_pos (by rfl)]
    refine wp_appA V.heap.size a8 (r.acks.length + 1) c8 ((flatA (X.A.take r.acks.length)) ++ [.int .i64 i, .slice none 0 0]) da 0 (cA - r.acks.length) (flatA (X.A.drop r.acks.length)) rfl rfl o8.out.own (DR.out.ext BV8.out) (flatA_one _) (by omega) BV8.out.size (fun a9 c9 v9 ow9 gr9 _ => ?_)
    have BV9 := hid (below_grow BV8.out gr9 (fun j hj => (o8.out.own.lt j hj).1) BV8.out.size)
    have KB9 := hid (show Blk v9 w.heap.size (rcV r ⟨aS, cS, aD, cD, aH, cH, aW, cW, aY, cY, aB, cB, (some ⟨g0, 0, none⟩), cA⟩) 41 from (gr9.block _ KB8.out.lt (fun e => by have := (o8.out.own.lt _ e.symm).1; have := SZ.out; omega)).trans KB8.out)
    have o9 := hid (RowZ.mk' ow9)
    clear gr9
    refine hK.out _ _ ⟨KB9.out, BV9.out⟩ (fun _ => ?_)
    clear hK K ow9
    try simp only [qq]
    have hHeld : BoxS V.heap.size V w.heap.size (rcV r ⟨aS, cS, aD, cD, aH, cH, aW, cW, aY, cY, aB, cB, (some ⟨g0, 0, none⟩), cA⟩) v9 := ⟨KB9.out, BV9.out⟩
    have cB9 := KB9.out.cell
    have fB9 := KB9.out.free
    refine rdL 15 (by kernel_rfl) (at_lit rfl) (fun K hK => ?_)
    go_simp
    refine hK.out _ _ hHeld (fun hNew => ?_)
    clear hK K hNew
    try simp only [qq]
    refine wpLast_end (by kernel_rfl) (at_lit rfl) (by kernel_rfl) (fun K hK => ?_)
    go_simp
    refine hK.out _ _ ?_
    clear hK K cB9 fB9 hHeld
    obtain ⟨g9, hg9, hss⟩ := AckS.ins (K := r.acks.length) S0.out HB.out HM.out BV9.out KB9.out o9.out (show r.acks.length + 1 + 0 = (insX X.A r.acks.length i).length by simp only [insX, List.length_append, List.length_take, List.length_drop, List.length_cons, List.length_nil, XL.out]; try omega) (show (flatA (X.A.take r.acks.length)) ++ [.int .i64 i, .slice none 0 0] ++ flatA (X.A.drop r.acks.length) = flatA (insX X.A r.acks.length i) by unfold insX; rw [flatA_app, flatA_app]; rfl) HW.out.1 INS.out
    subst hg9
    refine KF.out _ _ ⟨?_, ?_, ?_, ?_, ?_, ?_, ?_, ?_, ?_, ?_, ?_, ?_, ?_, ?_, ?_, ?_, g9, c9, ?_, hss⟩
    rotate_left 16
    simp only [qq]
    rfl
   skip
   go_simp
   obtain ⟨v10, hv10⟩ : ∃ v, v = v0.alloc (.cells #[.int .i64 i, .slice none 0 0] 105) := ⟨_, rfl⟩
   have BV10 := hid (show Below V.heap.size V v10 by rw [hv10]; exact ext_alloc BV0.out _)
   have EX10 := hid (show Below v0.heap.size v0 v10 by rw [hv10]; exact ext_alloc (Below.refl _ _) _)
   have kN10 := hid (show Blk v10 v0.heap.size #[.int .i64 i, .slice none 0 0] 105 by rw [hv10]; exact Blk.new _ _ _)
   have KB10 := hid (KB0.out.ext EX10.out)
   rw [← hv10]
   refine hK.out _ _ ⟨KB10.out, BV10.out⟩ (fun _ => ?_)
   clear hK K hv10
   try simp only [qq]
   refine rdL 0 (by kernel_rfl) (at_lit rfl) (fun K hK => ?_)
   go_simp
   obtain ⟨v11, hv11⟩ : ∃ v, v = v10.alloc (.cells #[] 105) := ⟨_, rfl⟩
   have BV11 := hid (show Below V.heap.size V v11 by rw [hv11]; exact ext_alloc BV10.out _)
   have EX11 := hid (show Below v10.heap.size v10 v11 by rw [hv11]; exact ext_alloc (Below.refl _ _) _)
   have kA11 := hid (show Blk v11 v10.heap.size #[] 105 by rw [hv11]; exact Blk.new _ _ _)
   have KB11 := hid (KB10.out.ext EX11.out)
   rw [← hv11]
   refine hK.out _ _ ⟨KB11.out, BV11.out⟩ (fun _ => ?_)
   clear hK K hv11
   try simp only [qq]
   have kN11 := hid (kN10.out.ext EX11.out)
   refine rdL 5 (by kernel_rfl) (at_lit rfl) (fun K hK => ?_)
   rw [if_pos (by rfl)]
   refine wp_newA v10.heap.size (some ⟨g0, 0, none⟩) r.acks.length cA (flatA (X.A.take r.acks.length)) rfl rfl kA11.out (readA_take (RDA.out.ext BV11.out) (Nat.le_refl _) XL.out) (flatA_one _) (by omega) (fun a12 c12 v12 ow12 gr12 => ?_)
   have BV12 := hid (below_grow BV11.out gr12 (fun j hj => by simp only [Option.some.injEq] at hj; have := BV0.out.size; have := BV10.out.size; omega) BV11.out.size)
   have KB12 := hid (show Blk v12 w.heap.size (rcV r ⟨aS, cS, aD, cD, aH, cH, aW, cW, aY, cY, aB, cB, (some ⟨g0, 0, none⟩), cA⟩) 41 from (gr12.block _ KB11.out.lt (fun e => by simp only [Option.some.injEq] at e; have := SZ.out; have := BV0.out.size; have := BV10.out.size; omega)).trans KB11.out)
   have o12 := hid (RowZ.mk' (own_low ow12 (show V.heap.size ≤ _ by have := BV0.out.size; have := BV10.out.size; omega)))
   refine hK.out _ _ ⟨KB12.out, BV12.out⟩ (fun _ => ?_)
   clear hK K ow12
   try simp only [qq]
   have kN12 := hid (show Blk v12 v0.heap.size #[.int .i64 i, .slice none 0 0] 105 from (gr12.block _ kN11.out.lt (fun e => by simp only [Option.some.injEq] at e; have := kN10.out.lt; omega)).trans kN11.out)
   clear gr12
   refine rdL 9 (by kernel_rfl) (at_lit rfl) (fun K hK => ?_)
   rw [if_pos (by rfl)]
   refine wp_appA V.heap.size a12 r.acks.length c12 (flatA (X.A.take r.acks.length)) (some ⟨v0.heap.size, 0, none⟩) 1 1 [.int .i64 i, .slice none 0 0] rfl rfl o12.out.own (read_ack kN12.out) (fun u hu => by simp at hu; rcases hu with rfl | rfl <;> rfl) (by omega) BV12.out.size (fun a13 c13 v13 ow13 gr13 _ => ?_)
   have BV13 := hid (below_grow BV12.out gr13 (fun j hj => (o12.out.own.lt j hj).1) BV12.out.size)
   have KB13 := hid (show Blk v13 w.heap.size (rcV r ⟨aS, cS, aD, cD, aH, cH, aW, cW, aY, cY, aB, cB, (some ⟨g0, 0, none⟩), cA⟩) 41 from (gr13.block _ KB12.out.lt (fun e => by have := (o12.out.own.lt _ e.symm).1; have := SZ.out; omega)).trans KB12.out)
   have o13 := hid (RowZ.mk' ow13)
   clear gr13
   refine hK.out _ _ ⟨KB13.out, BV13.out⟩ (fun _ => ?_)
   clear hK K ow13
   try simp only [qq]
   refine rdL 14 (by kernel_rfl) (at_lit rfl) (fun K hK => ?_)
   rw [if_pos (by rfl)]
   refine wp_appA V.heap.size a13 (r.acks.length + 1) c13 ((flatA (X.A.take r.acks.length)) ++ [.int .i64 i, .slice none 0 0]) da 0 (cA - r.acks.length) (flatA (X.A.drop r.acks.length)) rfl rfl o13.out.own (DR.out.ext BV13.out) (flatA_one _) (by omega) BV13.out.size (fun a14 c14 v14 ow14 gr14 _ => ?_)
   have BV14 := hid (below_grow BV13.out gr14 (fun j hj => (o13.out.own.lt j hj).1) BV13.out.size)
   have KB14 := hid (show Blk v14 w.heap.size (rcV r ⟨aS, cS, aD, cD, aH, cH, aW, cW, aY, cY, aB, cB, (some ⟨g0, 0, none⟩), cA⟩) 41 from (gr14.block _ KB13.out.lt (fun e => by have := (o13.out.own.lt _ e.symm).1; have := SZ.out; omega)).trans KB13.out)
   have o14 := hid (RowZ.mk' ow14)
   clear gr14
   refine hK.out _ _ ⟨KB14.out, BV14.out⟩ (fun _ => ?_)
   clear hK K ow14
   try simp only [qq]
   have hHeld : BoxS V.heap.size V w.heap.size (rcV r ⟨aS, cS, aD, cD, aH, cH, aW, cW, aY, cY, aB, cB, (some ⟨g0, 0, none⟩), cA⟩) v14 := ⟨KB14.out, BV14.out⟩
   have cB14 := KB14.out.cell
   have fB14 := KB14.out.free
   refine rdL 15 (by kernel_rfl) (at_lit rfl) (fun K hK => ?_)
   go_simp
   refine hK.out _ _ hHeld (fun hNew => ?_)
   clear hK K hNew
   try simp only [qq]
   refine wpLast_end (by kernel_rfl) (at_lit rfl) (by kernel_rfl) (fun K hK => ?_)
   go_simp
   refine hK.out _ _ ?_
   clear hK K cB14 fB14 hHeld
   obtain ⟨g9, hg9, hss⟩ := AckS.ins (K := r.acks.length) S0.out HB.out HM.out BV14.out KB14.out o14.out (show r.acks.length + 1 + 0 = (insX X.A r.acks.length i).length by simp only [insX, List.length_append, List.length_take, List.length_drop, List.length_cons, List.length_nil, XL.out]; try omega) (show (flatA (X.A.take r.acks.length)) ++ [.int .i64 i, .slice none 0 0] ++ flatA (X.A.drop r.acks.length) = flatA (insX X.A r.acks.length i) by unfold insX; rw [flatA_app, flatA_app]; rfl) HW.out.1 INS.out
   subst hg9
   refine KF.out _ _ ⟨?_, ?_, ?_, ?_, ?_, ?_, ?_, ?_, ?_, ?_, ?_, ?_, ?_, ?_, ?_, ?_, g9, c14, ?_, hss⟩
   rotate_left 16
   simp only [qq]
   rfl
  rintro a9 v9 ⟨u0, u1, u2, u3, u4, u5, u6, u7, u8, u9, u10, u11, u12, u13, u14, u15, g9, c9, rfl, hss⟩
  try simp only [qq]
  have SS := hid (show AckS B w col { r with acks := insL r.acks r.acks.length i } ⟨aS, cS, aD, cD, aH, cH, aW, cW, aY, cY, aB, cB, some ⟨g9, 0, none⟩, c9⟩ ⟨X.H, insX X.A r.acks.length i⟩ (colN (some ⟨g9, 0, none⟩) 6 (colF V.heap.size (colF w.heap.size col))) v9 from hss)
  clear hss
  obtain ⟨x2, hx2⟩ : ∃ x2 : Ap, x2 = ((i, []), none, 0) := ⟨_, rfl⟩
  obtain ⟨X2, hX2⟩ : ∃ X2 : RcX, X2 = ⟨X.H, insX X.A r.acks.length i⟩ := ⟨_, rfl⟩
  obtain ⟨r2, hr2⟩ : ∃ r2 : Rc, r2 = { r with acks := insL r.acks r.acks.length i } := ⟨_, rfl⟩
  obtain ⟨col2, hc2⟩ : ∃ c : Nat → Nat, c = (colN (some ⟨g9, 0, none⟩) 6 (colF V.heap.size (colF w.heap.size col))) := ⟨_, rfl⟩
  have HX2 := hid (show X2.A[r.acks.length]? = some x2 by rw [hX2, hx2]; exact INS.out)
  have RS2 := hid (show RcSmall r2 by rw [hr2]; exact ⟨HS.out.lS, HS.out.lD, HS.out.lH, HS.out.lW, HS.out.lY, HS.out.lB, by rw [insL_len (by omega)]; omega, HS.out.nH, small_ins HS.out.nA⟩)
  have HD2 := hid (show 0 ≤ r2.dk ∧ r2.dk ≤ r2.ds.length by rw [hr2]; exact HD.out)
  have FL := hid (show x2.1.2.length ≤ 100000 by rw [hx2]; exact Nat.zero_le _)
  have FIN := hid (show ackR r i f = advR { r2 with acks := r2.acks.set r.acks.length (x2.1.1, addL x2.1.2 f) } by rw [hr2, hx2]; exact FIN0.out)
  have NL := hid (show (insL r.acks r.acks.length i).length = r2.acks.length by rw [hr2])
  have e8 : ((r.acks.length : Nat) : Int) < (r2.acks.length : Int) := by rw [← NL.out, insL_len (by omega)]; omega
  rw [← hr2, ← hX2, ← hc2] at SS
  try rw [NL.out]
  clear hx2 hX2 hr2 hc2 FIN0 NL INS
  have cK := SS.out.k.cell
  have fK := SS.out.k.free
  go_wp2_with fail
  clear cK fK
  obtain ⟨gZ, ez, _, cc1, _⟩ := SS.out.has.a.cellA HX2.out (q := 1) (by omega) rfl
  have ez2 : g9 = gZ := by simpa using ez
  subst ez2
  have hK0 : AckT v9 w.heap.size (rcV r2 ⟨aS, cS, aD, cD, aH, cH, aW, cW, aY, cY, aB, cB, some ⟨g9, 0, none⟩, c9⟩) ⟨g9, r.acks.length * 2 + 1, none⟩ (.slice x2.2.1 x2.1.2.length x2.2.2) v9 := ⟨SS.out.k, cc1, Below.refl _ _⟩
  have IR := hid (SS.out.has.ai.row _ (List.mem_of_getElem? HX2.out))
  have HAC := hid SS.out.has.fresh
  clear cc1 ez
  refine wp_region_last (S := AckT v9 w.heap.size (rcV r2 ⟨aS, cS, aD, cD, aH, cH, aW, cW, aY, cY, aB, cB, some ⟨g9, 0, none⟩, c9⟩) ⟨g9, r.acks.length * 2 + 1, none⟩ (.slice x2.2.1 x2.1.2.length x2.2.2)) 13 (by kernel_rfl) hK0.drew (fun hHeld => ?_)
  simp only [qz, Nat.reduceAdd]
  clear hK0
  refine planL.go [0, 1, 2, 3, 4, 5, 6, 7, 8, 9] ?_
  iterate 10 (apply planL.take (at_lit rfl) (by kernel_rfl) (by rfl) (fun _ _ _ h => h) hHeld; (· intro w9 hSw; have hq := hSw.blk.cell; have hc := hSw.cel; clear hSw; go_simp; try with_reducible rfl); try simp only [qq])
  refine planL.fin ?_
  refine rdL 10 (by kernel_rfl) (at_lit rfl) (fun K hK => ?_)
  go_simp
  refine (specAdd x2.2.1 x2.1.2 x2.2.2 f _ (by have := FL.out; omega) IR.out.len.2 (IR.out.read.ext (hHeld.bel))).mono ?_
  rintro e v6 ⟨a6, c6, rfl, hor, hb6⟩
  have OR6 := hid hor
  have B6 := hid (ext_trans hHeld.bel hb6)
  clear hor
  go_wp2_with fail
  refine hK.out _ _ (hHeld.ext hb6) (fun hNew => ?_)
  clear hK K hHeld hb6
  have hHeld := hNew
  clear hNew
  try simp only [qq]
  refine rdL 11 (by kernel_rfl) (at_lit rfl) (fun K hK => ?_)
  go_simp
  refine hK.out _ _ hHeld (fun hNew => ?_)
  clear hK K hNew
  try simp only [qq]
  refine planL.go [12] ?_
  iterate 1 (apply planL.take (at_lit rfl) (by kernel_rfl) (by rfl) (fun _ _ _ h => h) hHeld; (· intro w9 hSw; have hq := hSw.blk.cell; have hc := hSw.cel; clear hSw; go_simp; try with_reducible rfl); try simp only [qq])
  refine planL.fin ?_
  have H6 := hid (HAC.out.ext B6.out)
  obtain ⟨g6, e6, _, d6, f6⟩ := H6.out.a.cellA HX2.out (q := 1) (by omega) rfl
  have e6' : g9 = g6 := by simpa using e6
  subst e6'
  clear e6 hHeld
  refine wpLast_end (by kernel_rfl) (at_lit rfl) (by kernel_rfl) (fun K hK => ?_)
  go_simp
  refine hK.out _ _ ?_
  clear hK K d6 f6
  obtain ⟨X7, col7, has7, cl7⟩ := H6.out.took (lo := v9.heap.size) (hi := v6.heap.size) (a2 := a6) (c2 := c6) (fl := addL x2.1.2 f) HX2.out rfl (OR6.out.imp id (fun h => h)) (Nat.le_trans HB.out (by have := SS.out.z.lt; omega)) (fun b hb => by rw [colF_new hb]; omega) (by have := addL_len x2.1.2 f; have := FL.out; unfold maxLen; omega) (addL_good (SS.out.has.gd.a r.acks.length _ (by rw [← SS.out.has.am, List.getElem?_map, HX2.out]; rfl)).2.2 HW.out.2)
  have H7 := hid has7
  have CL7 := hid cl7
  clear has7 cl7 OR6 H6 HAC
  obtain ⟨v7, hv7⟩ : ∃ v, v = v6.setCell ⟨g9, r.acks.length * 2 + 1, none⟩ (.slice a6 (addL x2.1.2 f).length c6) := ⟨_, rfl⟩
  rw [← hv7] at H7 ⊢
  have GC := hid (show col2 g9 = 6 from SS.out.has.a.col _ rfl)
  have GB := hid (show B ≤ g9 from (SS.out.has.a.lt _ rfl).1)
  have NE := hid (show ∀ b, 8 < col2 b → b ≠ g9 from fun b h8 e => by rw [e, GC.out] at h8; omega)
  have HP := hid (show ∀ b, b < v9.heap.size → b ≠ g9 → v7.heap[b]? = v9.heap[b]? from fun b hb hne => by rw [hv7]; exact (heap_setCell_other v6 ⟨g9, r.acks.length * 2 + 1, none⟩ b _ hne).trans (B6.out.block b hb))
  have B7 := hid (show Below B w v7 by rw [hv7]; exact below_set (SS.out.bel.trans (B6.out.mono (Nat.le_trans HB.out (by have := SS.out.z.lt; omega)))) GB.out _)
  obtain ⟨r3, hr3⟩ : ∃ r3 : Rc, r3 = { r2 with acks := r2.acks.set r.acks.length (x2.1.1, addL x2.1.2 f) } := ⟨_, rfl⟩
  rw [← hr3] at H7
  have FIN3 := hid (show ackR r i f = advR r3 by rw [hr3]; exact FIN.out)
  have SM3 := hid (show RcSmall r3 by rw [hr3]; exact ⟨RS2.out.lS, RS2.out.lD, RS2.out.lH, RS2.out.lW, RS2.out.lY, RS2.out.lB, by simp only [List.length_set]; exact RS2.out.lA, RS2.out.nH, small_set RS2.out.nA (by have := addL_len x2.1.2 f; have := FL.out; simp only; omega)⟩)
  have DK3 := hid (show 0 ≤ r3.dk ∧ r3.dk ≤ r3.ds.length by rw [hr3]; exact HD2.out)
  have K7 : Blk v7 w.heap.size (rcV r3 ⟨aS, cS, aD, cD, aH, cH, aW, cW, aY, cY, aB, cB, some ⟨g9, 0, none⟩, c9⟩) 41 := blk_eq ((HP.out _ SS.out.k.lt (NE.out _ SS.out.c0)).trans SS.out.k) (by rw [hr3]; simp)
  have Z7 := hid (show Blk v7 (w.heap.size + 1) zRc 41 from (HP.out _ SS.out.z.lt (NE.out _ SS.out.c1)).trans SS.out.z)
  clear hv7 B6 hr3
  go_wp2_with ((with_reducible refine wpList_load_rec w.heap.size (rcV r3 ⟨aS, cS, aD, cD, aH, cH, aW, cW, aY, cY, aB, cB, some ⟨g9, 0, none⟩, c9⟩) rfl ?_ ?_ ?_); (· rfl); (· exact K7))
  refine (specAdvance B r3 ⟨aS, cS, aD, cD, aH, cH, aW, cW, aY, cY, aB, cB, some ⟨g9, 0, none⟩, c9⟩ X7 col7 _ (Nat.le_trans HB.out (by have := K7.lt; omega)) DK3.out.1 DK3.out.2 SM3.out H7.out).mono ?_
  obtain ⟨r4, hr4⟩ : ∃ r4, r4 = advR r3 := ⟨_, rfl⟩
  rw [← hr4]
  have FIN4 := hid (FIN3.out.trans hr4.symm)
  clear hr4
  rintro e w8 ⟨p8, X8, col8, rfl, has8, hb8, ot8⟩
  have z8 := (ot8 (w.heap.size + 1) Z7.out.lt (CL7.out _ SS.out.z.lt (by rw [colF_old SS.out.z.lt]; exact SS.out.c1)))
  have k8 : Blk w8 (w.heap.size + 1) zRc 41 := z8.1.trans Z7.out
  go_wp2_with ((with_reducible refine wpList_store_rec_at (w.heap.size + 1) zRc (rcV r4 p8) rfl rfl ?_ ?_ ?_ ?_ ?_); (· rfl); (· rfl); (· exact k8); (· simp [Value.oneCell']))
  have hz := setRow_heap _ (w.heap.size + 1) _ (rcV r4 p8) _ _ k8
  refine ret_cell (ty := 41) Tryz.results80 (w.heap.size + 1) (rcV r4 p8) _ ?_ ?_ hz Tryz.underlying41 rfl (by kernel_rfl) ?_
  ·rfl
  ·rfl
  rw [FIN4.out]
  refine ⟨p8, X8, col8, rfl, has8.setRow z8.2 _, below_setRow' (B7.out.trans hb8) (by have := HB.out; omega) _, fun b hb h8 => ?_⟩
  obtain ⟨o1, o2⟩ := SS.out.oth b hb h8
  have bz : b < v9.heap.size := by have := SS.out.z.lt; omega
  obtain ⟨q1, q2⟩ := ot8 b (by have := Z7.out.lt; omega) (CL7.out b bz (by rw [colF_old bz]; exact o2))
  exact ⟨(setRow_other _ _ b _ (by omega)).trans (q1.trans ((HP.out b bz (NE.out b o2)).trans o1)), q2⟩
 skip
 obtain ⟨h1, h2, h3, _⟩ := h0
 dsimp only at h1 h3
 subst h1 h3
 obtain ⟨r0, rfl⟩ : ∃ r0 : Rc, r = { r0 with acks := [] } := ⟨r, by have h9 := List.length_eq_zero_iff.1 h2; cases r; simp_all⟩
 clear h2
 have XL := hid (show X.A.length = 0 by rw [← List.length_map (f := (·.1)), HM.out]; rfl)
 have RDA := hid (show ReadAt V none 0 0 2 (flatA X.A) from S0.out.has.a.read)
 have INS := hid (show (insX X.A 0 i)[0]? = some (((i, []), none, 0) : Ap) from rfl)
 have FIN0 := hid (show ackR { r0 with acks := ([] : List Ak) } i f = advR { r0 with acks := (insL ([] : List Ak) 0 i).set 0 (i, addL [] f) } from rfl)
 go_wp2_with fail
 refine wp_gen (FinA B w col { r0 with acks := ([] : List Ak) } ⟨aS, cS, aD, cD, aH, cH, aW, cW, aY, cY, aB, cB, none, 0⟩ X V 0 i) (fun _ _ dst _ _ h => by cases dst <;> exact h) (fun QQ hP KF => ?_) ?_
 ·have hK0 : BoxS V.heap.size V w.heap.size (rcV { r0 with acks := ([] : List Ak) } ⟨aS, cS, aD, cD, aH, cH, aW, cW, aY, cY, aB, cB, none, 0⟩) V := ⟨S0.out.k, Below.refl _ _⟩
  clear cK fK
  refine wp_region_last (S := BoxS V.heap.size V w.heap.size (rcV { r0 with acks := ([] : List Ak) } ⟨aS, cS, aD, cD, aH, cH, aW, cW, aY, cY, aB, cB, none, 0⟩)) 16 (by kernel_rfl) hK0.drew (fun hHeld => ?_)
  simp only [qz, Nat.reduceAdd]
  clear hK0
  refine planL.go [1, 2, 3, 4, 6, 7, 10, 11, 12, 13] ?_
  iterate 10 (apply planL.take (at_lit rfl) (by kernel_rfl) (by rfl) (fun c a w h => hP c a _ _ w h) hHeld; (· intro w9 hSw; have hq := hSw.blk.cell; clear hSw; go_simp; try with_reducible rfl); try simp only [qq])
  refine planL.fin ?_
  have DR := hid (show ReadAt V none 0 0 2 (flatA (X.A.drop 0)) from (by have h9 := RDA.out; rw [List.drop_zero]; exact h9))
  obtain ⟨v0, hv0⟩ : ∃ v, v = V.drew := ⟨_, rfl⟩
  rw [← hv0] at hHeld ⊢
  have BV0 := hid hHeld.bel
  have KB0 := hid hHeld.blk
  clear hv0 hHeld
  refine wpLast_ready (rs := [0, 8]) (by kernel_rfl) (by simp) ?_
  refine AllLast.cons (at_lit rfl) (fun K hK => ?_) (AllLast.cons (at_lit rfl) (fun K hK => ?_) AllLast.nil)
  ·skip
   go_simp
   obtain ⟨v1, hv1⟩ : ∃ v, v = v0.alloc (.cells #[] 105) := ⟨_, rfl⟩
   have BV1 := hid (show Below V.heap.size V v1 by rw [hv1]; exact ext_alloc BV0.out _)
   have EX1 := hid (show Below v0.heap.size v0 v1 by rw [hv1]; exact ext_alloc (Below.refl _ _) _)
   have kA1 := hid (show Blk v1 v0.heap.size #[] 105 by rw [hv1]; exact Blk.new _ _ _)
   have KB1 := hid (KB0.out.ext EX1.out)
   rw [← hv1]
   refine hK.out _ _ ⟨KB1.out, BV1.out⟩ (fun _ => ?_)
   clear hK K hv1
   try simp only [qq]
   refine wpLast_ready (rs := [5, 8]) (by kernel_rfl) (by simp) ?_
   refine AllLast.cons (at_lit rfl) (fun K hK => ?_) (AllLast.cons (at_lit rfl) (fun K hK => ?_) AllLast.nil)
   ·skip
    rw [if_pos (by rfl)]
    refine wp_newA v0.heap.size none 0 0 (flatA (X.A.take 0)) rfl rfl kA1.out (readA_take (RDA.out.ext BV1.out) (Nat.le_refl _) XL.out) (flatA_one _) (by omega) (fun a2 c2 v2 ow2 gr2 => ?_)
    have BV2 := hid (below_grow BV1.out gr2 (fun j hj => by simp only [Option.some.injEq] at hj; have := BV0.out.size; omega) BV1.out.size)
    have KB2 := hid (show Blk v2 w.heap.size (rcV { r0 with acks := ([] : List Ak) } ⟨aS, cS, aD, cD, aH, cH, aW, cW, aY, cY, aB, cB, none, 0⟩) 41 from (gr2.block _ KB1.out.lt (fun e => by simp only [Option.some.injEq] at e; have := SZ.out; have := BV0.out.size; omega)).trans KB1.out)
    have o2 := hid (RowZ.mk' (own_low ow2 (show V.heap.size ≤ _ by have := BV0.out.size; omega)))
    refine hK.out _ _ ⟨KB2.out, BV2.out⟩ (fun _ => ?_)
    clear hK K ow2
    try simp only [qq]
    clear gr2
    refine rdL 8 (by kernel_rfl) (at_lit rfl) (fun K hK => ?_)
    go_simp
    obtain ⟨v3, hv3⟩ : ∃ v, v = v2.alloc (.cells #[.int .i64 i, .slice none 0 0] 105) := ⟨_, rfl⟩
    have BV3 := hid (show Below V.heap.size V v3 by rw [hv3]; exact ext_alloc BV2.out _)
    have EX3 := hid (show Below v2.heap.size v2 v3 by rw [hv3]; exact ext_alloc (Below.refl _ _) _)
    have kN3 := hid (show Blk v3 v2.heap.size #[.int .i64 i, .slice none 0 0] 105 by rw [hv3]; exact Blk.new _ _ _)
    have KB3 := hid (KB2.out.ext EX3.out)
    rw [← hv3]
    refine hK.out _ _ ⟨KB3.out, BV3.out⟩ (fun _ => ?_)
    clear hK K hv3
    try simp only [qq]
    have o3 := hid (o2.out.ext EX3.out)
    refine rdL 9 (by kernel_rfl) (at_lit rfl) (fun K hK => ?_)
    rw [if_pos (by rfl)]
    refine wp_appA V.heap.size a2 0 c2 (flatA (X.A.take 0)) (some ⟨v2.heap.size, 0, none⟩) 1 1 [.int .i64 i, .slice none 0 0] rfl rfl o3.out.own (read_ack kN3.out) (fun u hu => by simp at hu; rcases hu with rfl | rfl <;> rfl) (by omega) BV3.out.size (fun a4 c4 v4 ow4 gr4 _ => ?_)
    have BV4 := hid (below_grow BV3.out gr4 (fun j hj => (o3.out.own.lt j hj).1) BV3.out.size)
    have KB4 := hid (show Blk v4 w.heap.size (rcV { r0 with acks := ([] : List Ak) } ⟨aS, cS, aD, cD, aH, cH, aW, cW, aY, cY, aB, cB, none, 0⟩) 41 from (gr4.block _ KB3.out.lt (fun e => by have := (o3.out.own.lt _ e.symm).1; have := SZ.out; omega)).trans KB3.out)
    have o4 := hid (RowZ.mk' ow4)
    clear gr4
    refine hK.out _ _ ⟨KB4.out, BV4.out⟩ (fun _ => ?_)
    clear hK K ow4
    try simp only [qq]
    refine rdL 14 (by kernel_rfl) (at_lit rfl) (fun K hK => ?_)
    rw [if_pos (by rfl)]
    refine wp_appA V.heap.size a4 (0 + 1) c4 ((flatA (X.A.take 0)) ++ [.int .i64 i, .slice none 0 0]) none 0 0 (flatA (X.A.drop 0)) rfl rfl o4.out.own (DR.out.ext BV4.out) (flatA_one _) (by omega) BV4.out.size (fun a5 c5 v5 ow5 gr5 _ => ?_)
    have BV5 := hid (below_grow BV4.out gr5 (fun j hj => (o4.out.own.lt j hj).1) BV4.out.size)
    have KB5 := hid (show Blk v5 w.heap.size (rcV { r0 with acks := ([] : List Ak) } ⟨aS, cS, aD, cD, aH, cH, aW, cW, aY, cY, aB, cB, none, 0⟩) 41 from (gr5.block _ KB4.out.lt (fun e => by have := (o4.out.own.lt _ e.symm).1; have := SZ.out; omega)).trans KB4.out)
    have o5 := hid (RowZ.mk' ow5)
    clear gr5
    refine hK.out _ _ ⟨KB5.out, BV5.out⟩ (fun _ => ?_)
    clear hK K ow5
    try simp only [qq]
    have hHeld : BoxS V.heap.size V w.heap.size (rcV { r0 with acks := ([] : List Ak) } ⟨aS, cS, aD, cD, aH, cH, aW, cW, aY, cY, aB, cB, none, 0⟩) v5 := ⟨KB5.out, BV5.out⟩
    have cB5 := KB5.out.cell
    have fB5 := KB5.out.free
    refine rdL 15 (by kernel_rfl) (at_lit rfl) (fun K hK => ?_)
    go_simp
    refine hK.out _ _ hHeld (fun hNew => ?_)
    clear hK K hNew
    try simp only [qq]
    refine wpLast_end (by kernel_rfl) (at_lit rfl) (by kernel_rfl) (fun K hK => ?_)
    go_simp
    refine hK.out _ _ ?_
    clear hK K cB5 fB5 hHeld
    obtain ⟨g9, hg9, hss⟩ := AckS.ins (K := 0) S0.out HB.out HM.out BV5.out KB5.out o5.out (show 0 + 1 + 0 = (insX X.A 0 i).length by simp only [insX, List.length_append, List.length_take, List.length_drop, List.length_cons, List.length_nil, XL.out]; try omega) (show (flatA (X.A.take 0)) ++ [.int .i64 i, .slice none 0 0] ++ flatA (X.A.drop 0) = flatA (insX X.A 0 i) by unfold insX; rw [flatA_app, flatA_app]; rfl) HW.out.1 INS.out
    subst hg9
    refine KF.out _ _ ⟨?_, ?_, ?_, ?_, ?_, ?_, ?_, ?_, ?_, ?_, ?_, ?_, ?_, ?_, ?_, ?_, g9, c5, ?_, hss⟩
    rotate_left 16
    simp only [qq]
    rfl
   skip
   go_simp
   obtain ⟨v6, hv6⟩ : ∃ v, v = v1.alloc (.cells #[.int .i64 i, .slice none 0 0] 105) := ⟨_, rfl⟩
   have BV6 := hid (show Below V.heap.size V v6 by rw [hv6]; exact ext_alloc BV1.out _)
   have EX6 := hid (show Below v1.heap.size v1 v6 by rw [hv6]; exact ext_alloc (Below.refl _ _) _)
   have kN6 := hid (show Blk v6 v1.heap.size #[.int .i64 i, .slice none 0 0] 105 by rw [hv6]; exact Blk.new _ _ _)
   have KB6 := hid (KB1.out.ext EX6.out)
   rw [← hv6]
   refine hK.out _ _ ⟨KB6.out, BV6.out⟩ (fun _ => ?_)
   clear hK K hv6
   try simp only [qq]
   have kA6 := hid (kA1.out.ext EX6.out)
   refine rdL 5 (by kernel_rfl) (at_lit rfl) (fun K hK => ?_)
   rw [if_pos (by rfl)]
   refine wp_newA v0.heap.size none 0 0 (flatA (X.A.take 0)) rfl rfl kA6.out (readA_take (RDA.out.ext BV6.out) (Nat.le_refl _) XL.out) (flatA_one _) (by omega) (fun a7 c7 v7 ow7 gr7 => ?_)
   have BV7 := hid (below_grow BV6.out gr7 (fun j hj => by simp only [Option.some.injEq] at hj; have := BV0.out.size; have := BV1.out.size; omega) BV6.out.size)
   have KB7 := hid (show Blk v7 w.heap.size (rcV { r0 with acks := ([] : List Ak) } ⟨aS, cS, aD, cD, aH, cH, aW, cW, aY, cY, aB, cB, none, 0⟩) 41 from (gr7.block _ KB6.out.lt (fun e => by simp only [Option.some.injEq] at e; have := SZ.out; have := BV0.out.size; have := BV1.out.size; omega)).trans KB6.out)
   have o7 := hid (RowZ.mk' (own_low ow7 (show V.heap.size ≤ _ by have := BV0.out.size; have := BV1.out.size; omega)))
   refine hK.out _ _ ⟨KB7.out, BV7.out⟩ (fun _ => ?_)
   clear hK K ow7
   try simp only [qq]
   have kN7 := hid (show Blk v7 v1.heap.size #[.int .i64 i, .slice none 0 0] 105 from (gr7.block _ kN6.out.lt (fun e => by simp only [Option.some.injEq] at e; have := kA1.out.lt; omega)).trans kN6.out)
   clear gr7
   refine rdL 9 (by kernel_rfl) (at_lit rfl) (fun K hK => ?_)
   rw [if_pos (by rfl)]
   refine wp_appA V.heap.size a7 0 c7 (flatA (X.A.take 0)) (some ⟨v1.heap.size, 0, none⟩) 1 1 [.int .i64 i, .slice none 0 0] rfl rfl o7.out.own (read_ack kN7.out) (fun u hu => by simp at hu; rcases hu with rfl | rfl <;> rfl) (by omega) BV7.out.size (fun a8 c8 v8 ow8 gr8 _ => ?_)
   have BV8 := hid (below_grow BV7.out gr8 (fun j hj => (o7.out.own.lt j hj).1) BV7.out.size)
   have KB8 := hid (show Blk v8 w.heap.size (rcV { r0 with acks := ([] : List Ak) } ⟨aS, cS, aD, cD, aH, cH, aW, cW, aY, cY, aB, cB, none, 0⟩) 41 from (gr8.block _ KB7.out.lt (fun e => by have := (o7.out.own.lt _ e.symm).1; have := SZ.out; omega)).trans KB7.out)
   have o8 := hid (RowZ.mk' ow8)
   clear gr8
   refine hK.out _ _ ⟨KB8.out, BV8.out⟩ (fun _ => ?_)
   clear hK K ow8
   try simp only [qq]
   refine rdL 14 (by kernel_rfl) (at_lit rfl) (fun K hK => ?_)
   rw [if_pos (by rfl)]
   refine wp_appA V.heap.size a8 (0 + 1) c8 ((flatA (X.A.take 0)) ++ [.int .i64 i, .slice none 0 0]) none 0 0 (flatA (X.A.drop 0)) rfl rfl o8.out.own (DR.out.ext BV8.out) (flatA_one _) (by omega) BV8.out.size (fun a9 c9 v9 ow9 gr9 _ => ?_)
   have BV9 := hid (below_grow BV8.out gr9 (fun j hj => (o8.out.own.lt j hj).1) BV8.out.size)
   have KB9 := hid (show Blk v9 w.heap.size (rcV { r0 with acks := ([] : List Ak) } ⟨aS, cS, aD, cD, aH, cH, aW, cW, aY, cY, aB, cB, none, 0⟩) 41 from (gr9.block _ KB8.out.lt (fun e => by have := (o8.out.own.lt _ e.symm).1; have := SZ.out; omega)).trans KB8.out)
   have o9 := hid (RowZ.mk' ow9)
   clear gr9
   refine hK.out _ _ ⟨KB9.out, BV9.out⟩ (fun _ => ?_)
   clear hK K ow9
   try simp only [qq]
   have hHeld : BoxS V.heap.size V w.heap.size (rcV { r0 with acks := ([] : List Ak) } ⟨aS, cS, aD, cD, aH, cH, aW, cW, aY, cY, aB, cB, none, 0⟩) v9 := ⟨KB9.out, BV9.out⟩
   have cB9 := KB9.out.cell
   have fB9 := KB9.out.free
   refine rdL 15 (by kernel_rfl) (at_lit rfl) (fun K hK => ?_)
   go_simp
   refine hK.out _ _ hHeld (fun hNew => ?_)
   clear hK K hNew
   try simp only [qq]
   refine wpLast_end (by kernel_rfl) (at_lit rfl) (by kernel_rfl) (fun K hK => ?_)
   go_simp
   refine hK.out _ _ ?_
   clear hK K cB9 fB9 hHeld
   obtain ⟨g9, hg9, hss⟩ := AckS.ins (K := 0) S0.out HB.out HM.out BV9.out KB9.out o9.out (show 0 + 1 + 0 = (insX X.A 0 i).length by simp only [insX, List.length_append, List.length_take, List.length_drop, List.length_cons, List.length_nil, XL.out]; try omega) (show (flatA (X.A.take 0)) ++ [.int .i64 i, .slice none 0 0] ++ flatA (X.A.drop 0) = flatA (insX X.A 0 i) by unfold insX; rw [flatA_app, flatA_app]; rfl) HW.out.1 INS.out
   subst hg9
   refine KF.out _ _ ⟨?_, ?_, ?_, ?_, ?_, ?_, ?_, ?_, ?_, ?_, ?_, ?_, ?_, ?_, ?_, ?_, g9, c9, ?_, hss⟩
   rotate_left 16
   simp only [qq]
   rfl
  skip
  go_simp
  obtain ⟨v10, hv10⟩ : ∃ v, v = v0.alloc (.cells #[.int .i64 i, .slice none 0 0] 105) := ⟨_, rfl⟩
  have BV10 := hid (show Below V.heap.size V v10 by rw [hv10]; exact ext_alloc BV0.out _)
  have EX10 := hid (show Below v0.heap.size v0 v10 by rw [hv10]; exact ext_alloc (Below.refl _ _) _)
  have kN10 := hid (show Blk v10 v0.heap.size #[.int .i64 i, .slice none 0 0] 105 by rw [hv10]; exact Blk.new _ _ _)
  have KB10 := hid (KB0.out.ext EX10.out)
  rw [← hv10]
  refine hK.out _ _ ⟨KB10.out, BV10.out⟩ (fun _ => ?_)
  clear hK K hv10
  try simp only [qq]
  refine rdL 0 (by kernel_rfl) (at_lit rfl) (fun K hK => ?_)
  go_simp
  obtain ⟨v11, hv11⟩ : ∃ v, v = v10.alloc (.cells #[] 105) := ⟨_, rfl⟩
  have BV11 := hid (show Below V.heap.size V v11 by rw [hv11]; exact ext_alloc BV10.out _)
  have EX11 := hid (show Below v10.heap.size v10 v11 by rw [hv11]; exact ext_alloc (Below.refl _ _) _)
  have kA11 := hid (show Blk v11 v10.heap.size #[] 105 by rw [hv11]; exact Blk.new _ _ _)
  have KB11 := hid (KB10.out.ext EX11.out)
  rw [← hv11]
  refine hK.out _ _ ⟨KB11.out, BV11.out⟩ (fun _ => ?_)
  clear hK K hv11
  try simp only [qq]
  have kN11 := hid (kN10.out.ext EX11.out)
  refine rdL 5 (by kernel_rfl) (at_lit rfl) (fun K hK => ?_)
  rw [if_pos (by rfl)]
  refine wp_newA v10.heap.size none 0 0 (flatA (X.A.take 0)) rfl rfl kA11.out (readA_take (RDA.out.ext BV11.out) (Nat.le_refl _) XL.out) (flatA_one _) (by omega) (fun a12 c12 v12 ow12 gr12 => ?_)
  have BV12 := hid (below_grow BV11.out gr12 (fun j hj => by simp only [Option.some.injEq] at hj; have := BV0.out.size; have := BV10.out.size; omega) BV11.out.size)
  have KB12 := hid (show Blk v12 w.heap.size (rcV { r0 with acks := ([] : List Ak) } ⟨aS, cS, aD, cD, aH, cH, aW, cW, aY, cY, aB, cB, none, 0⟩) 41 from (gr12.block _ KB11.out.lt (fun e => by simp only [Option.some.injEq] at e; have := SZ.out; have := BV0.out.size; have := BV10.out.size; omega)).trans KB11.out)
  have o12 := hid (RowZ.mk' (own_low ow12 (show V.heap.size ≤ _ by have := BV0.out.size; have := BV10.out.size; omega)))
  refine hK.out _ _ ⟨KB12.out, BV12.out⟩ (fun _ => ?_)
  clear hK K ow12
  try simp only [qq]
  have kN12 := hid (show Blk v12 v0.heap.size #[.int .i64 i, .slice none 0 0] 105 from (gr12.block _ kN11.out.lt (fun e => by simp only [Option.some.injEq] at e; have := kN10.out.lt; omega)).trans kN11.out)
  clear gr12
  refine rdL 9 (by kernel_rfl) (at_lit rfl) (fun K hK => ?_)
  rw [if_pos (by rfl)]
  refine wp_appA V.heap.size a12 0 c12 (flatA (X.A.take 0)) (some ⟨v0.heap.size, 0, none⟩) 1 1 [.int .i64 i, .slice none 0 0] rfl rfl o12.out.own (read_ack kN12.out) (fun u hu => by simp at hu; rcases hu with rfl | rfl <;> rfl) (by omega) BV12.out.size (fun a13 c13 v13 ow13 gr13 _ => ?_)
  have BV13 := hid (below_grow BV12.out gr13 (fun j hj => (o12.out.own.lt j hj).1) BV12.out.size)
  have KB13 := hid (show Blk v13 w.heap.size (rcV { r0 with acks := ([] : List Ak) } ⟨aS, cS, aD, cD, aH, cH, aW, cW, aY, cY, aB, cB, none, 0⟩) 41 from (gr13.block _ KB12.out.lt (fun e => by have := (o12.out.own.lt _ e.symm).1; have := SZ.out; omega)).trans KB12.out)
  have o13 := hid (RowZ.mk' ow13)
  clear gr13
  refine hK.out _ _ ⟨KB13.out, BV13.out⟩ (fun _ => ?_)
  clear hK K ow13
  try simp only [qq]
  refine rdL 14 (by kernel_rfl) (at_lit rfl) (fun K hK => ?_)
  rw [if_pos (by rfl)]
  refine wp_appA V.heap.size a13 (0 + 1) c13 ((flatA (X.A.take 0)) ++ [.int .i64 i, .slice none 0 0]) none 0 0 (flatA (X.A.drop 0)) rfl rfl o13.out.own (DR.out.ext BV13.out) (flatA_one _) (by omega) BV13.out.size (fun a14 c14 v14 ow14 gr14 _ => ?_)
  have BV14 := hid (below_grow BV13.out gr14 (fun j hj => (o13.out.own.lt j hj).1) BV13.out.size)
  have KB14 := hid (show Blk v14 w.heap.size (rcV { r0 with acks := ([] : List Ak) } ⟨aS, cS, aD, cD, aH, cH, aW, cW, aY, cY, aB, cB, none, 0⟩) 41 from (gr14.block _ KB13.out.lt (fun e => by have := (o13.out.own.lt _ e.symm).1; have := SZ.out; omega)).trans KB13.out)
  have o14 := hid (RowZ.mk' ow14)
  clear gr14
  refine hK.out _ _ ⟨KB14.out, BV14.out⟩ (fun _ => ?_)
  clear hK K ow14
  try simp only [qq]
  have hHeld : BoxS V.heap.size V w.heap.size (rcV { r0 with acks := ([] : List Ak) } ⟨aS, cS, aD, cD, aH, cH, aW, cW, aY, cY, aB, cB, none, 0⟩) v14 := ⟨KB14.out, BV14.out⟩
  have cB14 := KB14.out.cell
  have fB14 := KB14.out.free
  refine rdL 15 (by kernel_rfl) (at_lit rfl) (fun K hK => ?_)
  go_simp
  refine hK.out _ _ hHeld (fun hNew => ?_)
  clear hK K hNew
  try simp only [qq]
  refine wpLast_end (by kernel_rfl) (at_lit rfl) (by kernel_rfl) (fun K hK => ?_)
  go_simp
  refine hK.out _ _ ?_
  clear hK K cB14 fB14 hHeld
  obtain ⟨g9, hg9, hss⟩ := AckS.ins (K := 0) S0.out HB.out HM.out BV14.out KB14.out o14.out (show 0 + 1 + 0 = (insX X.A 0 i).length by simp only [insX, List.length_append, List.length_take, List.length_drop, List.length_cons, List.length_nil, XL.out]; try omega) (show (flatA (X.A.take 0)) ++ [.int .i64 i, .slice none 0 0] ++ flatA (X.A.drop 0) = flatA (insX X.A 0 i) by unfold insX; rw [flatA_app, flatA_app]; rfl) HW.out.1 INS.out
  subst hg9
  refine KF.out _ _ ⟨?_, ?_, ?_, ?_, ?_, ?_, ?_, ?_, ?_, ?_, ?_, ?_, ?_, ?_, ?_, ?_, g9, c14, ?_, hss⟩
  rotate_left 16
  simp only [qq]
  rfl
 rintro a9 v9 ⟨u0, u1, u2, u3, u4, u5, u6, u7, u8, u9, u10, u11, u12, u13, u14, u15, g9, c9, rfl, hss⟩
 try simp only [qq]
 have SS := hid (show AckS B w col { r0 with acks := insL ([] : List Ak) 0 i } ⟨aS, cS, aD, cD, aH, cH, aW, cW, aY, cY, aB, cB, some ⟨g9, 0, none⟩, c9⟩ ⟨X.H, insX X.A 0 i⟩ (colN (some ⟨g9, 0, none⟩) 6 (colF V.heap.size (colF w.heap.size col))) v9 from hss)
 clear hss
 obtain ⟨x2, hx2⟩ : ∃ x2 : Ap, x2 = ((i, []), none, 0) := ⟨_, rfl⟩
 obtain ⟨X2, hX2⟩ : ∃ X2 : RcX, X2 = ⟨X.H, insX X.A 0 i⟩ := ⟨_, rfl⟩
 obtain ⟨r2, hr2⟩ : ∃ r2 : Rc, r2 = { r0 with acks := insL ([] : List Ak) 0 i } := ⟨_, rfl⟩
 obtain ⟨col2, hc2⟩ : ∃ c : Nat → Nat, c = (colN (some ⟨g9, 0, none⟩) 6 (colF V.heap.size (colF w.heap.size col))) := ⟨_, rfl⟩
 have HX2 := hid (show X2.A[0]? = some x2 by rw [hX2, hx2]; exact INS.out)
 have RS2 := hid (show RcSmall r2 by rw [hr2]; exact ⟨HS.out.lS, HS.out.lD, HS.out.lH, HS.out.lW, HS.out.lY, HS.out.lB, by rw [insL_len (by omega)]; omega, HS.out.nH, small_ins HS.out.nA⟩)
 have HD2 := hid (show 0 ≤ r2.dk ∧ r2.dk ≤ r2.ds.length by rw [hr2]; exact HD.out)
 have FL := hid (show x2.1.2.length ≤ 100000 by rw [hx2]; exact Nat.zero_le _)
 have FIN := hid (show ackR { r0 with acks := ([] : List Ak) } i f = advR { r2 with acks := r2.acks.set 0 (x2.1.1, addL x2.1.2 f) } by rw [hr2, hx2]; exact FIN0.out)
 have NL := hid (show (insL ([] : List Ak) 0 i).length = r2.acks.length by rw [hr2])
 have e8 : ((0 : Nat) : Int) < (r2.acks.length : Int) := by rw [← NL.out, insL_len (by omega)]; omega
 rw [← hr2, ← hX2, ← hc2] at SS
 try rw [NL.out]
 have e9 : 0 < r2.acks.length := by omega
 clear hx2 hX2 hr2 hc2 FIN0 NL INS
 have cK := SS.out.k.cell
 have fK := SS.out.k.free
 go_wp2_with fail
 clear cK fK
 obtain ⟨gZ, ez, _, cc1, _⟩ := SS.out.has.a.cellA HX2.out (q := 1) (by omega) rfl
 have ez2 : g9 = gZ := by simpa using ez
 subst ez2
 have hK0 : AckT v9 w.heap.size (rcV r2 ⟨aS, cS, aD, cD, aH, cH, aW, cW, aY, cY, aB, cB, some ⟨g9, 0, none⟩, c9⟩) ⟨g9, 1, none⟩ (.slice x2.2.1 x2.1.2.length x2.2.2) v9 := ⟨SS.out.k, cc1, Below.refl _ _⟩
 have IR := hid (SS.out.has.ai.row _ (List.mem_of_getElem? HX2.out))
 have HAC := hid SS.out.has.fresh
 clear cc1 ez
 refine wp_region_last (S := AckT v9 w.heap.size (rcV r2 ⟨aS, cS, aD, cD, aH, cH, aW, cW, aY, cY, aB, cB, some ⟨g9, 0, none⟩, c9⟩) ⟨g9, 1, none⟩ (.slice x2.2.1 x2.1.2.length x2.2.2)) 13 (by kernel_rfl) hK0.drew (fun hHeld => ?_)
 simp only [qz, Nat.reduceAdd]
 clear hK0
 refine planL.go [0, 1, 2, 3, 4, 5, 6, 7, 8, 9] ?_
 iterate 10 (apply planL.take (at_lit rfl) (by kernel_rfl) (by rfl) (fun _ _ _ h => h) hHeld; (· intro w9 hSw; have hq := hSw.blk.cell; have hc := hSw.cel; clear hSw; go_simp; try with_reducible rfl); try simp only [qq])
 refine planL.fin ?_
 refine rdL 10 (by kernel_rfl) (at_lit rfl) (fun K hK => ?_)
 go_simp
 refine (specAdd x2.2.1 x2.1.2 x2.2.2 f _ (by have := FL.out; omega) IR.out.len.2 (IR.out.read.ext (hHeld.bel))).mono ?_
 rintro e v6 ⟨a6, c6, rfl, hor, hb6⟩
 have OR6 := hid hor
 have B6 := hid (ext_trans hHeld.bel hb6)
 clear hor
 go_wp2_with fail
 refine hK.out _ _ (hHeld.ext hb6) (fun hNew => ?_)
 clear hK K hHeld hb6
 have hHeld := hNew
 clear hNew
 try simp only [qq]
 refine rdL 11 (by kernel_rfl) (at_lit rfl) (fun K hK => ?_)
 go_simp
 refine hK.out _ _ hHeld (fun hNew => ?_)
 clear hK K hNew
 try simp only [qq]
 refine planL.go [12] ?_
 iterate 1 (apply planL.take (at_lit rfl) (by kernel_rfl) (by rfl) (fun _ _ _ h => h) hHeld; (· intro w9 hSw; have hq := hSw.blk.cell; have hc := hSw.cel; clear hSw; go_simp; try with_reducible rfl); try simp only [qq])
 refine planL.fin ?_
 have H6 := hid (HAC.out.ext B6.out)
 obtain ⟨g6, e6, _, d6, f6⟩ := H6.out.a.cellA HX2.out (q := 1) (by omega) rfl
 have e6' : g9 = g6 := by simpa using e6
 subst e6'
 have d6 : v6.cell? ⟨g9, 1, none⟩ = some (.slice x2.2.1 x2.1.2.length x2.2.2) := d6
 have f6 : v6.frozen? ⟨g9, 1, none⟩ = false := f6
 clear e6 hHeld
 refine wpLast_end (by kernel_rfl) (at_lit rfl) (by kernel_rfl) (fun K hK => ?_)
 go_simp
 refine hK.out _ _ ?_
 clear hK K d6 f6
 obtain ⟨X7, col7, has7, cl7⟩ := H6.out.took (lo := v9.heap.size) (hi := v6.heap.size) (a2 := a6) (c2 := c6) (fl := addL x2.1.2 f) HX2.out rfl (OR6.out.imp id (fun h => h)) (Nat.le_trans HB.out (by have := SS.out.z.lt; omega)) (fun b hb => by rw [colF_new hb]; omega) (by have := addL_len x2.1.2 f; have := FL.out; unfold maxLen; omega) (addL_good (SS.out.has.gd.a 0 _ (by rw [← SS.out.has.am, List.getElem?_map, HX2.out]; rfl)).2.2 HW.out.2)
 have H7 := hid (show RcHas B (v6.setCell ⟨g9, 1, none⟩ (.slice a6 (addL x2.1.2 f).length c6)) _ _ _ _ from has7)
 have CL7 := hid cl7
 clear has7 cl7 OR6 H6 HAC
 obtain ⟨v7, hv7⟩ : ∃ v, v = v6.setCell ⟨g9, 1, none⟩ (.slice a6 (addL x2.1.2 f).length c6) := ⟨_, rfl⟩
 rw [← hv7] at H7 ⊢
 have GC := hid (show col2 g9 = 6 from SS.out.has.a.col _ rfl)
 have GB := hid (show B ≤ g9 from (SS.out.has.a.lt _ rfl).1)
 have NE := hid (show ∀ b, 8 < col2 b → b ≠ g9 from fun b h8 e => by rw [e, GC.out] at h8; omega)
 have HP := hid (show ∀ b, b < v9.heap.size → b ≠ g9 → v7.heap[b]? = v9.heap[b]? from fun b hb hne => by rw [hv7]; exact (heap_setCell_other v6 ⟨g9, 1, none⟩ b _ hne).trans (B6.out.block b hb))
 have B7 := hid (show Below B w v7 by rw [hv7]; exact below_set (SS.out.bel.trans (B6.out.mono (Nat.le_trans HB.out (by have := SS.out.z.lt; omega)))) GB.out _)
 obtain ⟨r3, hr3⟩ : ∃ r3 : Rc, r3 = { r2 with acks := r2.acks.set 0 (x2.1.1, addL x2.1.2 f) } := ⟨_, rfl⟩
 rw [← hr3] at H7
 have FIN3 := hid (show ackR { r0 with acks := ([] : List Ak) } i f = advR r3 by rw [hr3]; exact FIN.out)
 have SM3 := hid (show RcSmall r3 by rw [hr3]; exact ⟨RS2.out.lS, RS2.out.lD, RS2.out.lH, RS2.out.lW, RS2.out.lY, RS2.out.lB, by simp only [List.length_set]; exact RS2.out.lA, RS2.out.nH, small_set RS2.out.nA (by have := addL_len x2.1.2 f; have := FL.out; simp only; omega)⟩)
 have DK3 := hid (show 0 ≤ r3.dk ∧ r3.dk ≤ r3.ds.length by rw [hr3]; exact HD2.out)
 have K7 : Blk v7 w.heap.size (rcV r3 ⟨aS, cS, aD, cD, aH, cH, aW, cW, aY, cY, aB, cB, some ⟨g9, 0, none⟩, c9⟩) 41 := blk_eq ((HP.out _ SS.out.k.lt (NE.out _ SS.out.c0)).trans SS.out.k) (by rw [hr3]; simp)
 have Z7 := hid (show Blk v7 (w.heap.size + 1) zRc 41 from (HP.out _ SS.out.z.lt (NE.out _ SS.out.c1)).trans SS.out.z)
 clear hv7 B6 hr3
 go_wp2_with ((with_reducible refine wpList_load_rec w.heap.size (rcV r3 ⟨aS, cS, aD, cD, aH, cH, aW, cW, aY, cY, aB, cB, some ⟨g9, 0, none⟩, c9⟩) rfl ?_ ?_ ?_); (· rfl); (· exact K7))
 refine (specAdvance B r3 ⟨aS, cS, aD, cD, aH, cH, aW, cW, aY, cY, aB, cB, some ⟨g9, 0, none⟩, c9⟩ X7 col7 _ (Nat.le_trans HB.out (by have := K7.lt; omega)) DK3.out.1 DK3.out.2 SM3.out H7.out).mono ?_
 obtain ⟨r4, hr4⟩ : ∃ r4, r4 = advR r3 := ⟨_, rfl⟩
 rw [← hr4]
 have FIN4 := hid (FIN3.out.trans hr4.symm)
 clear hr4
 rintro e w8 ⟨p8, X8, col8, rfl, has8, hb8, ot8⟩
 have z8 := (ot8 (w.heap.size + 1) Z7.out.lt (CL7.out _ SS.out.z.lt (by rw [colF_old SS.out.z.lt]; exact SS.out.c1)))
 have k8 : Blk w8 (w.heap.size + 1) zRc 41 := z8.1.trans Z7.out
 go_wp2_with ((with_reducible refine wpList_store_rec_at (w.heap.size + 1) zRc (rcV r4 p8) rfl rfl ?_ ?_ ?_ ?_ ?_); (· rfl); (· rfl); (· exact k8); (· simp [Value.oneCell']))
 have hz := setRow_heap _ (w.heap.size + 1) _ (rcV r4 p8) _ _ k8
 refine ret_cell (ty := 41) Tryz.results80 (w.heap.size + 1) (rcV r4 p8) _ ?_ ?_ hz Tryz.underlying41 rfl (by kernel_rfl) ?_
 ·rfl
 ·rfl
 rw [FIN4.out]
 refine ⟨p8, X8, col8, rfl, has8.setRow z8.2 _, below_setRow' (B7.out.trans hb8) (by have := HB.out; omega) _, fun b hb h8 => ?_⟩
 obtain ⟨o1, o2⟩ := SS.out.oth b hb h8
 have bz : b < v9.heap.size := by have := SS.out.z.lt; omega
 obtain ⟨q1, q2⟩ := ot8 b (by have := Z7.out.lt; omega) (CL7.out b bz (by rw [colF_old bz]; exact o2))
 exact ⟨(setRow_other _ _ b _ (by omega)).trans (q1.trans ((HP.out b bz (NE.out b o2)).trans o1)), q2⟩
end Go.Proofs.YtffklmlljekceaaGreat
