import Derived.Test.YtffklmlljekceaaGreatQ39
namespace Go.Proofs.YtffklmlljekceaaGreat
open Go.ChangeShapes Go.WideShapes Go.ChangeAt Go.RowKit
set_option linter.unusedSimpArgs false
set_option linter.unusedVariables false
set_option maxHeartbeats 16000000
set_option maxRecDepth 20000
structure TkA (g gA o : Nat) (va vf : Value) (w' : World) : Prop where
 ca : w'.cell? ⟨g, 16, none⟩ = some va
 cf : w'.cell? ⟨gA, o, none⟩ = some vf
structure TkV (g nb : Nat) (c cn : Array Value) (w' : World) : Prop where
 bg : Blk w' g c 41
 bn : Blk w' nb cn 105
theorem TkV.drew {g nb : Nat} {c cn : Array Value} {w' : World} (k : TkV g nb c cn w') : TkV g nb c cn w'.drew := ⟨k.bg, k.bn⟩
structure AdvG (B g : Nat) (w : World) (col : Nat → Nat) (r : Rc) (p : RcP) (X : RcX) (c' : Nat → Nat) (d : Int) (wr : World) : Prop where
 k : Blk wr g (rcV (atK r d) p) 41
 has : RcHas B wr r p X c'
 cg : 8 < c' g
 bel : Below B w wr
 oth : ∀ b, b < w.heap.size → b ≠ g → 8 < col b → wr.heap[b]? = w.heap[b]? ∧ 8 < c' b
theorem AdvG.ext {B g : Nat} {w : World} {col : Nat → Nat} {r : Rc} {p : RcP} {X : RcX} {c' : Nat → Nat} {d : Int} {wr wr' : World} (h : AdvG B g w col r p X c' d wr) (hg : B ≤ g) (hb : Below wr.heap.size wr wr') : AdvG B g w col r p X c' d wr' :=
 ⟨h.k.ext hb, h.has.ext hb, h.cg, h.bel.trans (hb.mono (Nat.le_trans hg (Nat.le_of_lt h.k.lt))), fun b hlt hne h8 => ⟨(hb.block b (Nat.lt_of_lt_of_le hlt h.bel.size)).trans (h.oth b hlt hne h8).1, (h.oth b hlt hne h8).2⟩⟩
theorem AdvG.put {B g : Nat} {w : World} {col : Nat → Nat} {r : Rc} {p : RcP} {X : RcX} {c' : Nat → Nat} {d : Int} {wr : World} (h : AdvG B g w col r p X c' d wr) (hg : B ≤ g) (d' : Int) : AdvG B g w col r p X c' d' (wr.setCell ⟨g, 7, none⟩ (.int .i64 d')) :=
 ⟨by have := h.k.set (o := 7) (.int .i64 d'); simpa using this, h.has.setCell (q := ⟨g, 7, none⟩) h.cg _, h.cg, below_set h.bel hg _, fun b hlt hne h8 => ⟨(heap_setCell_other _ ⟨g, 7, none⟩ b _ hne).trans (h.oth b hlt hne h8).1, (h.oth b hlt hne h8).2⟩⟩
theorem TkA.drew {g gA o : Nat} {va vf : Value} {w' : World} (k : TkA g gA o va vf w') : TkA g gA o va vf w'.drew := ⟨k.ca, k.cf⟩
theorem implTookS (B g : Nat) (r : Rc) (p : RcP) (X : RcX) (col : Nat → Nat) (f ix : Int) (w : World) (hg : B ≤ g) (hk : Blk w g (rcV r p) 41) (hc : 8 < col g) (hd0 : 0 ≤ r.dk) (hd1 : r.dk ≤ r.ds.length) (hS : RcSmall r) (hl : r.acks.length ≤ 1000) (hasc : AscA r.acks) (hal : ∀ (j : Nat) a, r.acks[j]? = some a → a.2.length ≤ 1000 ∧ AscI a.2) (hi : wfI ix) (hf : wfI f) (h : RcHas B w r p X col) :
  Calls Tryz.prog 138 #[.pointer (some ⟨g, 0, none⟩), .int .i64 f, .int .i64 ix] w fun e w' => (∃ v, e = .returned v) ∧ SfPost B g w col p (ackR r ix f) w' := by
 have HG := hid hg
 have HB := hid (show B ≤ w.heap.size from Nat.le_trans hg (Nat.le_of_lt hk.lt))
 have HS := hid hS
 have HD := hid (And.intro hd0 hd1)
 have HAL := hid hal
 have HF := hid hf
 have HI := hid hi
 have ASC := hid hasc
 have CALL := implAckPlace B g r p X col ix w hg hk hc hl hasc hi h
 have HLr := hid hl
 clear h hg hk hc hd0 hd1 hS hasc hal hi hf hl
 go_enter Tryz.func138, Tryz.ntmps138
 go_wp2_with fail
 refine CALL.mono ?_
 clear CALL
 rintro e w1 ⟨i, r1, rfl, hil, hlo, hcase, gp⟩
 have HX0 : ∃ (ak : Ak), r1.acks[i]? = some ak ∧ ak.1 = ix ∧ ak.2.length ≤ 1000 ∧ AscI ak.2 ∧ ackR r ix f = advR { r1 with acks := r1.acks.set i (ak.1, addL ak.2 f) } ∧ r1.acks.length ≤ 1001 := by
  rcases hcase with ⟨rfl, s, hs, he⟩ | ⟨rfl, hnew⟩
  ·refine ⟨s, hs, he, (HAL.out i s hs).1, (HAL.out i s hs).2, ?_, by have := HLr.out; omega⟩
   unfold ackR
   rw [ackL_same hlo hs he]
  refine ⟨(ix, []), insL_at hil, rfl, by simp, fun a b s t hs => by simp at hs, ?_, by have := insL_len (l := r.acks) (i := ix) hil; have := HLr.out; simp only; omega⟩
  unfold ackR
  rw [ackL_new hlo hil hnew]
  rfl
 obtain ⟨ak, hak, hki, hfl, haf, hfin, hl1⟩ := HX0
 have D1 := hid (show 0 ≤ r1.dk ∧ r1.dk ≤ r1.ds.length ∧ r1.ds.length ≤ 1048576 by
  rcases hcase with ⟨rfl, _⟩ | ⟨rfl, _⟩ <;> exact ⟨HD.out.1, HD.out.2, HS.out.lD⟩)
 have FIN := hid hfin
 have NA1 := hid (show ∀ (j : Nat) a, r1.acks[j]? = some a → a.2.length ≤ 1001 from fun j a ha => by
  rcases hcase with ⟨rfl, _⟩ | ⟨rfl, _⟩
  ·have := (HAL.out j a ha).1; omega
  have hm := List.mem_of_getElem? ha
  simp only [insL, List.mem_append, List.mem_singleton] at hm
  rcases hm with (hm | rfl) | hm
  ·obtain ⟨n, hn⟩ := List.getElem?_of_mem (List.mem_of_mem_take hm); have := (HAL.out n a hn).1; omega
  ·simp
  obtain ⟨n, hn⟩ := List.getElem?_of_mem (List.mem_of_mem_drop hm); have := (HAL.out n a hn).1; omega)
 obtain ⟨p1, X1, col1, k1, has1, hc1, bel1, ot1, es1, ec1⟩ := gp
 have ESC := hid (And.intro es1 ec1)
 clear es1 ec1
 have K1 := hid k1
 have R1 := hid has1
 have C1 := hid hc1
 have B1 := hid bel1
 have O1 := hid ot1
 have L1 := hid hl1
 obtain ⟨x, hx⟩ : ∃ x, X1.A[i]? = some x := ⟨_, List.getElem?_eq_getElem (by rw [← List.length_map (f := (·.1)), has1.am]; exact (List.getElem?_eq_some_iff.1 hak).1)⟩
 have hxa : x.1 = ak := by
  have h9 : r1.acks[i]? = some x.1 := by rw [← has1.am, List.getElem?_map, hx]; rfl
  rw [hak] at h9
  exact (Option.some.inj h9).symm
 obtain ⟨⟨kx, fl⟩, fa, fc⟩ := x
 dsimp only at hxa
 subst hxa
 have HX := hid hx
 have AF := hid haf
 have FLn := hid hfl
 have FG := hid (show GoodOnes wfI fl from (has1.gd.a i _ hak).2.2)
 have HAK := hid hak
 obtain ⟨gA, ea, gl, c1, _⟩ := has1.a.cellA hx (q := 1) (by omega) rfl
 have GA := hid (show gA < w1.heap.size ∧ col1 gA = 6 from ⟨gl, has1.a.col _ ea⟩)
 obtain ⟨curA, KA0⟩ : ∃ cur, Blk w1 gA cur 105 := by
  rcases has1.a.own.2 with ⟨h0, _⟩ | ⟨g', cap, cur, hv, _, hb, _⟩
  ·simp only [Value.slice.injEq] at h0; rw [h0.1] at ea; cases ea
  simp only [Value.slice.injEq] at hv; rw [hv.1] at ea; cases ea; exact ⟨cur, hb⟩
 have KA := hid KA0
 have CF := hid (show w1.cell? ⟨gA, i * 2 + 1, none⟩ = some (.slice fa fl.length fc) from c1)
 have GB := hid (show B ≤ gA from (has1.a.lt _ ea).1)
 have HB1 := hid (show B ≤ w1.heap.size from Nat.le_trans HB.out bel1.size)
 have e1 : (0 : Int) ≤ (i : Int) := by omega
 have e2 : (i : Int) < (r1.acks.length : Int) := by have := (List.getElem?_eq_some_iff.1 hak).1; omega
 clear KA0 hcase hfin hl1 has1 hc1 bel1 ot1 hx haf hfl hak c1 gl hlo hki
 obtain ⟨aS1, cS1, aD1, cD1, aH1, cH1, aW1, cW1, aY1, cY1, aB1, cB1, aA1, cA1⟩ := p1
 dsimp only at ea
 subst ea
 have hK0 : TkA g gA (i * 2 + 1) (.slice (some ⟨gA, 0, none⟩) r1.acks.length cA1) (.slice fa fl.length fc) w1 := ⟨k1.cell 16, CF.out⟩
 clear k1
 go_wp2_with fail
 refine wp_region_last (S := TkA g gA (i * 2 + 1) (.slice (some ⟨gA, 0, none⟩) r1.acks.length cA1) (.slice fa fl.length fc)) 17 (by kernel_rfl) hK0.drew (fun hHeld => ?_)
 simp only [qz, Nat.reduceAdd]
 clear hK0
 refine planL.go [0, 1, 2, 3, 4, 5, 6, 7, 8, 9, 10, 11, 12, 13] ?_
 iterate 14 (apply planL.take (at_lit rfl) (by kernel_rfl) (by rfl) (fun _ _ _ h => h) hHeld; (· intro w9 hSw; have ha := hSw.ca; have hf := hSw.cf; clear hSw; go_simp; try with_reducible rfl); try simp only [qq])
 refine planL.fin ?_
 refine rdL 14 (by kernel_rfl) (at_lit rfl) (fun K hK => ?_)
 go_simp
 have SD := hid (R1.out.ext (show Below w1.heap.size w1 w1.drew from ⟨rfl, rfl, rfl, Nat.le_refl _, fun _ _ => rfl⟩))
 have RX := hid (SD.out.ai.row _ (List.mem_of_getElem? HX.out))
 refine (withNum B fa fc fl f w1.drew RX.out.own (RX.out.ints FG.out) AF.out FLn.out HB1.out).mono ?_
 rintro e w2 ⟨a2, c2, rfl, ho, gr, hN⟩
 have HAS := hid (fun h => SD.out.took_grown (k := i) HX.out rfl gr ho hN h (addL_good FG.out HF.out))
 have N8 := hid (show ∀ b, b < w1.heap.size → col1 b ≠ 8 → w2.heap[b]? = w1.heap[b]? from fun b hb h8 => gr.block b hb (fun e => by
  cases hs : fa with
  | none => rw [hs] at e; simp [Value.ownBlock] at e
  | some y =>
   rw [hs] at e
   simp only [Value.ownBlock, Option.some.injEq] at e
   have := RX.out.col y hs
   rw [← e] at this
   exact h8 this))
 have C8 := hid (show ∀ b, b < w1.heap.size → 8 < col1 b → colN a2 8 col1 b = col1 b from fun b hlt h8 => colN_else fun x hx e => by
  rcases hN x hx with ⟨y, hy, he⟩ | h1
  ·have := RX.out.col y hy
   rw [he, e] at this
   omega
  have h9 : w1.heap.size ≤ x.block := h1
  omega)
 have BE := hid (show Below B w1 w2 from ⟨gr.os, gr.tape, gr.output, gr.size, fun b hb => gr.block b (by have := HB1.out; have h9 : B ≤ w1.heap.size := this; show b < w1.heap.size; omega) (fun e => by
  cases hs : fa with
  | none => rw [hs] at e; simp [Value.ownBlock] at e
  | some y =>
   rw [hs] at e
   simp only [Value.ownBlock, Option.some.injEq] at e
   have := (RX.out.lt y hs).1
   omega)⟩)
 clear ho gr hN
 go_wp2_with fail
 have KG := hid (show Blk w2 g (rcV r1 ⟨aS1, cS1, aD1, cD1, aH1, cH1, aW1, cW1, aY1, cY1, aB1, cB1, some ⟨gA, 0, none⟩, cA1⟩) 41 from (N8.out g K1.out.lt (by have := C1.out; omega)).trans K1.out)
 have CF2 := hid (show w2.cell? ⟨gA, i * 2 + 1, none⟩ = some (.slice fa fl.length fc) from (World.cell?_of_block (show w2.heap[(⟨gA, i * 2 + 1, none⟩ : Addr).block]? = w1.heap[(⟨gA, i * 2 + 1, none⟩ : Addr).block]? from N8.out gA GA.out.1 (by rw [GA.out.2]; omega))).trans CF.out)
 have hHeld2 : TkA g gA (i * 2 + 1) (.slice (some ⟨gA, 0, none⟩) r1.acks.length cA1) (.slice fa fl.length fc) w2 := ⟨KG.out.cell 16, CF2.out⟩
 refine hK.out _ _ hHeld2 (fun _ => ?_)
 clear hK K hHeld
 have hHeld := hHeld2
 clear hHeld2
 try simp only [qq]
 refine rdL 15 (by kernel_rfl) (at_lit rfl) (fun K hK => ?_)
 go_simp
 refine hK.out _ _ hHeld (fun hNew => ?_)
 clear hK K hNew
 try simp only [qq]
 refine planL.go [16] ?_
 iterate 1 (apply planL.take (at_lit rfl) (by kernel_rfl) (by rfl) (fun _ _ _ h => h) hHeld; (· intro w9 hSw; have ha := hSw.ca; have hf := hSw.cf; clear hSw; go_simp; try with_reducible rfl); try simp only [qq])
 refine planL.fin ?_
 refine wpLast_end (by kernel_rfl) (at_lit rfl) (by kernel_rfl) (fun K hK => ?_)
 have c6 := CF2.out
 have f6 := (show Blk w2 gA curA 105 from (N8.out gA GA.out.1 (by rw [GA.out.2]; omega)).trans KA.out).free (i * 2 + 1)
 go_simp
 refine hK.out _ _ ?_
 clear hK K hHeld c6 f6
 have LF := addL_len fl f
 have H3 := hid (HAS.out (by have := FLn.out; unfold maxLen; omega))
 obtain ⟨w3, hw3⟩ : ∃ v, v = w2.setCell ⟨gA, i * 2 + 1, none⟩ (.slice a2 (addL fl f).length c2) := ⟨_, rfl⟩
 have gne : g ≠ gA := fun e => by have h8 := C1.out; have h6 := GA.out.2; rw [e, h6] at h8; omega
 obtain ⟨r3, hr3⟩ : ∃ r3 : Rc, r3 = { r1 with acks := r1.acks.set i (kx, addL fl f) } := ⟨_, rfl⟩
 rw [← hr3] at H3
 rw [← hw3] at H3 ⊢
 have FIN3 := hid (show ackR r ix f = advR r3 by rw [hr3]; exact FIN.out)
 have D3 := hid (show 0 ≤ r3.dk ∧ r3.dk ≤ r3.ds.length ∧ r3.ds.length ≤ 1048576 ∧ r3.acks.length ≤ 1001 by rw [hr3]; exact ⟨D1.out.1, D1.out.2.1, D1.out.2.2, by simp only [List.length_set]; exact L1.out⟩)
 have NA3 := hid (show ∀ (j : Nat) a, r3.acks[j]? = some a → a.2.length ≤ 1001 from fun j a ha => by
  rw [hr3] at ha
  simp only at ha
  rw [List.getElem?_set] at ha
  split at ha
  ·split at ha
   ·simp only [Option.some.injEq] at ha; rw [← ha]; have := FLn.out; simp only at this ⊢; omega
   simp at ha
  exact NA1.out j a ha)
 have K3 := hid (show Blk w3 g (rcV r3 ⟨aS1, cS1, aD1, cD1, aH1, cH1, aW1, cW1, aY1, cY1, aB1, cB1, some ⟨gA, 0, none⟩, cA1⟩) 41 by
  rw [hw3, hr3]
  exact blk_eq ((heap_setCell_other w2 ⟨gA, i * 2 + 1, none⟩ g _ gne).trans KG.out) (by simp))
 have C3 := hid (show 8 < colN a2 8 col1 g by rw [C8.out g K1.out.lt C1.out]; exact C1.out)
 have B3 := hid (show Below B w w3 by rw [hw3]; exact below_set (B1.out.trans BE.out) GB.out _)
 have O3 := hid (show ∀ b, b < w.heap.size → b ≠ g → 8 < col b → w3.heap[b]? = w.heap[b]? ∧ 8 < colN a2 8 col1 b from fun b hlt hne h8 => by
  obtain ⟨q1, q2⟩ := O1.out b hlt hne h8
  have hlt1 : b < w1.heap.size := Nat.lt_of_lt_of_le hlt B1.out.size
  rw [hw3]
  exact ⟨((heap_setCell_other w2 ⟨gA, i * 2 + 1, none⟩ b _ (fun e => by have e' : b = gA := e; have h6 := GA.out.2; rw [← e'] at h6; omega)).trans (N8.out b hlt1 (by omega))).trans q1, by rw [C8.out b hlt1 q2]; exact q2⟩)
 have LEN3 := hid (show r1.acks.length = r3.acks.length by rw [hr3]; simp)
 clear hw3 hr3 gne LF HAS N8 C8 BE KG CF2 HX HAK GA KA CF K1 R1 C1 B1 O1 SD RX
 have cK := K3.out.cell
 have S0 := hid (show AdvG B g w col r3 ⟨aS1, cS1, aD1, cD1, aH1, cH1, aW1, cW1, aY1, cY1, aB1, cB1, some ⟨gA, 0, none⟩, cA1⟩ ⟨X1.H, X1.A.set i ((kx, addL fl f), a2, c2)⟩ (colN a2 8 col1) r3.dk w3 from ⟨K3.out, H3.out, C3.out, B3.out, O3.out⟩)
 obtain ⟨X3, hX3⟩ : ∃ X3 : RcX, X3 = ⟨X1.H, X1.A.set i ((kx, addL fl f), a2, c2)⟩ := ⟨_, rfl⟩
 obtain ⟨c3, hc3⟩ : ∃ c3, c3 = colN a2 8 col1 := ⟨_, rfl⟩
 rw [← hX3, ← hc3] at S0
 clear hX3 hc3 H3 C3 B3 O3 K3 e1 e2
 go_wp2_with fail
 clear cK
 go_loopw [34] (fun i wr => ∃ (k : Nat), k ≤ r3.acks.length ∧ i = .int .i64 k ∧ AdvG B g w col r3 ⟨aS1, cS1, aD1, cD1, aH1, cH1, aW1, cW1, aY1, cY1, aB1, cB1, some ⟨gA, 0, none⟩, cA1⟩ X3 c3 (advK r3 (r3.acks.take k) r3.dk) wr) (fun i _ => r3.acks.length - (intOf i).toNat)
 case atStart => exact ⟨0, Nat.zero_le _, rfl, S0.out⟩
 obtain ⟨k, hk, rfl, hss⟩ := hrel
 have SS := hid hss
 have ED := hid (advK_in r3 (r3.acks.take k) r3.dk D3.out.1 D3.out.2.1)
 have SN := hid (show ∀ a, r3.acks[k]? = some a → advK r3 (r3.acks.take (k + 1)) r3.dk = if advB r3 (advK r3 (r3.acks.take k) r3.dk) a = true then a.1 else advK r3 (r3.acks.take k) r3.dk from fun a ha => by
  rw [List.take_add_one, ha]
  exact advK_snoc r3 (r3.acks.take k) a r3.dk)
 obtain ⟨d, hd⟩ : ∃ d, d = advK r3 (r3.acks.take k) r3.dk := ⟨_, rfl⟩
 have HDK := hid hd
 rw [← hd] at hss SS ED SN
 have d0 : 0 ≤ d := ED.out.1
 have d1 : d ≤ r3.ds.length := ED.out.2
 have dS := D3.out.2.2.1
 have aS := D3.out.2.2.2
 clear hd hss S0
 have cK := SS.out.k.cell
 have fK := SS.out.k.free
 by_cases hlt : k < r3.acks.length
 ·obtain ⟨x, hx0⟩ : ∃ x, X3.A[k]? = some x := ⟨_, List.getElem?_eq_getElem (by rw [← List.length_map (f := (·.1)), SS.out.has.am]; exact hlt)⟩
  have hx : Hid (r3.acks[k]? = some x.1) := by
   show r3.acks[k]? = some x.1
   rw [← SS.out.has.am, List.getElem?_map, hx0]; rfl
  obtain ⟨gA2, ea, _, c0, _⟩ := SS.out.has.a.cellA hx0 (q := 0) (by omega) rfl
  obtain ⟨gA', ea', _, c1, _⟩ := SS.out.has.a.cellA hx0 (q := 1) (by omega) rfl
  simp only [Option.some.injEq, Addr.mk.injEq, and_true] at ea ea'
  subst ea
  subst ea'
  clear hx0
  simp only [Nat.add_zero] at c0
  have e1 : (0 : Int) ≤ (k : Int) := by omega
  have e2 : (k : Int) < (r3.acks.length : Int) := by omega
  have XS : x.1.2.length ≤ 1048576 := by have := NA3.out k _ hx.out; omega
  obtain ⟨q, rfl⟩ : ∃ q : Nat, d = (q : Int) := ⟨d.toNat, by omega⟩
  obtain ⟨⟨v, fl2⟩, xa, xc⟩ := x
  dsimp only at c0 c1 hx XS
  have S1 := hid (SS.out.ext HG.out (show Below wr.heap.size wr (wr.alloc (.cells #[.int .i64 v, .slice xa fl2.length xc] 105)) from ext_alloc (Below.refl _ _) _))
  have cB := S1.out.k.cell
  have fB := S1.out.k.free
  have KN := hid (Blk.new wr #[.int .i64 v, .slice xa fl2.length xc] 105)
  have cN := KN.out.cell
  have e3 : IntKind.i64.wrap ((q : Int) + 1) = (q : Int) + 1 := by go_arith
  go_wp2_with fail
  clear cK fK c0 c1
  by_cases g1 : v = (q : Int) + 1
  ·subst g1
   have u1 : (((q : Int) + 1) == (q : Int) + 1) = true := beq_self_eq_true _
   by_cases g2 : r3.of_ < 2 * (fl2.length : Int)
   ·have u2 : decide (r3.of_ < 2 * (fl2.length : Int)) = true := decide_eq_true g2
    have G2 := hid g2
    clear g2
    cases g3 : isOfB r3.ds q r3.ball
    ·have NO := hid (show advB r3 (q : Int) ((q : Int) + 1, fl2) = false by simp [advB, g3])
     have IS := hid g3
     clear g3
     have hK0 : TkV g wr.heap.size (rcV (atK r3 (q : Int)) ⟨aS1, cS1, aD1, cD1, aH1, cH1, aW1, cW1, aY1, cY1, aB1, cB1, some ⟨gA, 0, none⟩, cA1⟩) #[.int .i64 ((q : Int) + 1), .slice xa fl2.length xc] (wr.alloc (.cells #[.int .i64 ((q : Int) + 1), .slice xa fl2.length xc] 105)) := ⟨S1.out.k, KN.out⟩
     refine wp_region_held_drew (S := TkV g wr.heap.size (rcV (atK r3 (q : Int)) ⟨aS1, cS1, aD1, cD1, aH1, cH1, aW1, cW1, aY1, cY1, aB1, cB1, some ⟨gA, 0, none⟩, cA1⟩) #[.int .i64 ((q : Int) + 1), .slice xa fl2.length xc]) (by kernel_rfl) hK0.drew (fun hHeld => ?_)
     simp only [qz, Nat.reduceAdd]
     clear hK0 cB fB cN
     refine planH.go [0, 1, 2, 3, 4, 5, 6, 7, 8, 9, 10, 11, 12, 13, 14, 15] ?_
     iterate 16 (apply planH.take (at_lit rfl) (by kernel_rfl) (by rfl) (fun _ _ _ h => h) hHeld; (· intro w9 hSw; have hq := hSw.bg.cell; have hm := hSw.bn.cell; clear hSw; go_simp; try with_reducible rfl); try simp only [qq])
     refine planH.fin ?_
     refine rdH 16 (by kernel_rfl) (at_lit rfl) (fun K hK => ?_)
     go_simp
     refine (mostOf_same _ _ _ _ _ XS).mono ?_
     rintro e z ⟨rfl, hz⟩
     subst z
     rw [u2]
     go_wp2_with fail
     refine hK.out _ _ hHeld (fun _ => ?_)
     clear hK K
     try simp only [qq]
     refine planH.go [17, 18, 19, 20, 21, 22, 23, 24, 25, 26, 27, 28] ?_
     iterate 12 (apply planH.take (at_lit rfl) (by kernel_rfl) (by rfl) (fun _ _ _ h => h) hHeld; (· intro w9 hSw; have hq := hSw.bg.cell; have hm := hSw.bn.cell; clear hSw; go_simp; try with_reducible rfl); try simp only [qq])
     refine planH.fin ?_
     refine rdH 29 (by kernel_rfl) (at_lit rfl) (fun K hK => ?_)
     go_simp
     have S2 := hid (S1.out.ext HG.out (show Below (wr.alloc (.cells #[.int .i64 ((q : Int) + 1), .slice xa fl2.length xc] 105)).heap.size _ (wr.alloc (.cells #[.int .i64 ((q : Int) + 1), .slice xa fl2.length xc] 105)).drew from ⟨rfl, rfl, rfl, Nat.le_refl _, fun _ _ => rfl⟩))
     have CALL := slotIsOf_any r3.dp (q : Int) aD1 r3.ds r3.ds.length cD1 q r3.ball (wr.alloc (.cells #[.int .i64 ((q : Int) + 1), .slice xa fl2.length xc] 105)).drew rfl dS (by omega) S2.out.has.at.hD
     rw [show ((q + 1 : Nat) : Int) = (q : Int) + 1 by omega] at CALL
     refine CALL.mono ?_
     clear CALL
     rintro e z ⟨rfl, hz⟩
     rw [IS.out]
     have S3 := hid (S2.out.ext HG.out hz)
     have KN3 := hid ((Blk.drew KN.out).ext hz)
     clear hz
     go_wp2_with fail
     have hHeld2 : TkV g wr.heap.size (rcV (atK r3 (q : Int)) ⟨aS1, cS1, aD1, cD1, aH1, cH1, aW1, cW1, aY1, cY1, aB1, cB1, some ⟨gA, 0, none⟩, cA1⟩) #[.int .i64 ((q : Int) + 1), .slice xa fl2.length xc] z := ⟨S3.out.k, KN3.out⟩
     refine hK.out _ _ hHeld2 (fun _ => ?_)
     clear hK K hHeld
     have hHeld := hHeld2
     clear hHeld2
     try simp only [qq]
     refine planH.go [30] ?_
     iterate 1 (apply planH.take (at_lit rfl) (by kernel_rfl) (by rfl) (fun _ _ _ h => h) hHeld; (· intro w9 hSw; have hq := hSw.bg.cell; have hm := hSw.bn.cell; clear hSw; go_simp; try with_reducible rfl); try simp only [qq])
     refine planH.fin ?_
     refine wpAnyH_done (by kernel_rfl) ?_ _
     have cB := S3.out.k.cell
     have fB := S3.out.k.free
     have cN := KN3.out.cell
     go_wp2_with fail
     go_roundw
     case rel => exact ⟨k + 1, by omega, by go_num, by rw [SN.out _ hx.out, if_neg (by rw [NO.out]; simp)]; exact S3.out⟩
     case measure => simp [intOf]; omega
    have NO := hid (show advB r3 (q : Int) ((q : Int) + 1, fl2) = true by simp [advB, g3, G2.out])
    have IS := hid g3
    clear g3
    have hK0 : TkV g wr.heap.size (rcV (atK r3 (q : Int)) ⟨aS1, cS1, aD1, cD1, aH1, cH1, aW1, cW1, aY1, cY1, aB1, cB1, some ⟨gA, 0, none⟩, cA1⟩) #[.int .i64 ((q : Int) + 1), .slice xa fl2.length xc] (wr.alloc (.cells #[.int .i64 ((q : Int) + 1), .slice xa fl2.length xc] 105)) := ⟨S1.out.k, KN.out⟩
    refine wp_region_held_drew (S := TkV g wr.heap.size (rcV (atK r3 (q : Int)) ⟨aS1, cS1, aD1, cD1, aH1, cH1, aW1, cW1, aY1, cY1, aB1, cB1, some ⟨gA, 0, none⟩, cA1⟩) #[.int .i64 ((q : Int) + 1), .slice xa fl2.length xc]) (by kernel_rfl) hK0.drew (fun hHeld => ?_)
    simp only [qz, Nat.reduceAdd]
    clear hK0 cB fB cN
    refine planH.go [0, 1, 2, 3, 4, 5, 6, 7, 8, 9, 10, 11, 12, 13, 14, 15] ?_
    iterate 16 (apply planH.take (at_lit rfl) (by kernel_rfl) (by rfl) (fun _ _ _ h => h) hHeld; (· intro w9 hSw; have hq := hSw.bg.cell; have hm := hSw.bn.cell; clear hSw; go_simp; try with_reducible rfl); try simp only [qq])
    refine planH.fin ?_
    refine rdH 16 (by kernel_rfl) (at_lit rfl) (fun K hK => ?_)
    go_simp
    refine (mostOf_same _ _ _ _ _ XS).mono ?_
    rintro e z ⟨rfl, hz⟩
    subst z
    rw [u2]
    go_wp2_with fail
    refine hK.out _ _ hHeld (fun _ => ?_)
    clear hK K
    try simp only [qq]
    refine planH.go [17, 18, 19, 20, 21, 22, 23, 24, 25, 26, 27, 28] ?_
    iterate 12 (apply planH.take (at_lit rfl) (by kernel_rfl) (by rfl) (fun _ _ _ h => h) hHeld; (· intro w9 hSw; have hq := hSw.bg.cell; have hm := hSw.bn.cell; clear hSw; go_simp; try with_reducible rfl); try simp only [qq])
    refine planH.fin ?_
    refine rdH 29 (by kernel_rfl) (at_lit rfl) (fun K hK => ?_)
    go_simp
    have S2 := hid (S1.out.ext HG.out (show Below (wr.alloc (.cells #[.int .i64 ((q : Int) + 1), .slice xa fl2.length xc] 105)).heap.size _ (wr.alloc (.cells #[.int .i64 ((q : Int) + 1), .slice xa fl2.length xc] 105)).drew from ⟨rfl, rfl, rfl, Nat.le_refl _, fun _ _ => rfl⟩))
    have CALL := slotIsOf_any r3.dp (q : Int) aD1 r3.ds r3.ds.length cD1 q r3.ball (wr.alloc (.cells #[.int .i64 ((q : Int) + 1), .slice xa fl2.length xc] 105)).drew rfl dS (by omega) S2.out.has.at.hD
    rw [show ((q + 1 : Nat) : Int) = (q : Int) + 1 by omega] at CALL
    refine CALL.mono ?_
    clear CALL
    rintro e z ⟨rfl, hz⟩
    rw [IS.out]
    have S3 := hid (S2.out.ext HG.out hz)
    have KN3 := hid ((Blk.drew KN.out).ext hz)
    clear hz
    go_wp2_with fail
    have hHeld2 : TkV g wr.heap.size (rcV (atK r3 (q : Int)) ⟨aS1, cS1, aD1, cD1, aH1, cH1, aW1, cW1, aY1, cY1, aB1, cB1, some ⟨gA, 0, none⟩, cA1⟩) #[.int .i64 ((q : Int) + 1), .slice xa fl2.length xc] z := ⟨S3.out.k, KN3.out⟩
    refine hK.out _ _ hHeld2 (fun _ => ?_)
    clear hK K hHeld
    have hHeld := hHeld2
    clear hHeld2
    try simp only [qq]
    refine planH.go [30] ?_
    iterate 1 (apply planH.take (at_lit rfl) (by kernel_rfl) (by rfl) (fun _ _ _ h => h) hHeld; (· intro w9 hSw; have hq := hSw.bg.cell; have hm := hSw.bn.cell; clear hSw; go_simp; try with_reducible rfl); try simp only [qq])
    refine planH.fin ?_
    refine wpAnyH_done (by kernel_rfl) ?_ _
    have cB := S3.out.k.cell
    have fB := S3.out.k.free
    have cN := KN3.out.cell
    go_wp2_with fail
    go_roundw
    case rel => exact ⟨k + 1, by omega, by go_num, by rw [SN.out _ hx.out, if_pos NO.out]; exact S3.out.put HG.out _⟩
    case measure => simp [intOf]; omega
   have u2 : decide (r3.of_ < 2 * (fl2.length : Int)) = false := decide_eq_false g2
   go_quiet (first | (go_at_call 152; exact Calls.quiet_of_same (mostOf_same _ _ _ _ _ XS)))
   go_wp2_with fail
   go_roundw
   case rel => exact ⟨k + 1, by omega, by go_num, by rw [SN.out _ hx.out, if_neg (by simp [advB, u2])]; exact S1.out.ext HG.out ⟨rfl, rfl, rfl, Nat.le_refl _, fun _ _ => rfl⟩⟩
   case measure => simp [intOf]; omega
  have u1 : (v == (q : Int) + 1) = false := beq_false_of_ne g1
  have G1 := hid g1
  clear g1
  go_quiet (fail)
  go_wp2_with fail
  go_roundw
  case rel => exact ⟨k + 1, by omega, by go_num, by rw [SN.out _ hx.out, if_neg (by simp [advB, G1.out])]; exact S1.out.ext HG.out ⟨rfl, rfl, rfl, Nat.le_refl _, fun _ _ => rfl⟩⟩
  case measure => simp [intOf]; omega
 have e2 : ¬ (k : Int) < (r3.acks.length : Int) := by omega
 obtain rfl : k = r3.acks.length := by omega
 go_wp2_with fail
 first | refine bodyPost_end (results_none rfl _ _ _) rfl ?_ | refine bodyPost_ret (results_none rfl _ _ _) rfl ?_
 have HR : advR r3 = atK r3 d := by rw [HDK.out, List.take_length]; rfl
 rw [FIN3.out, HR]
 exact ⟨⟨_, rfl⟩, ⟨aS1, cS1, aD1, cD1, aH1, cH1, aW1, cW1, aY1, cY1, aB1, cB1, some ⟨gA, 0, none⟩, cA1⟩, X3, c3, SS.out.k, SS.out.has.like (r' := atK r3 d) rfl rfl rfl rfl rfl rfl rfl, SS.out.cg, SS.out.bel, SS.out.oth, ESC.out.1, ESC.out.2⟩
end Go.Proofs.YtffklmlljekceaaGreat
