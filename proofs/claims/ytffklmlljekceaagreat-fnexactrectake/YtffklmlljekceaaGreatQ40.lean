import Derived.Test.YtffklmlljekceaaGreatQ38
namespace Go.Proofs.YtffklmlljekceaaGreat
open Go.ChangeShapes Go.WideShapes Go.ChangeAt Go.RowKit
set_option linter.unusedSimpArgs false
set_option linter.unusedVariables false
set_option maxHeartbeats 16000000
set_option maxRecDepth 20000
def wipeO (a : Option Addr) (col : Nat → Nat) : Nat → Nat := match a with | none => col | some x => wipe x.block col
theorem RcHas.lead0 {B : Nat} {w : World} {r : Rc} {p : RcP} {X : RcX} {col : Nat → Nat} (h : RcHas B w r p X col) : RcHas B w (leadR r r.ds) { p with aY := none, cY := 0, aB := none, cB := 0, aA := none, cA := 0 } ⟨X.H, []⟩ (wipeO p.aB col) := by
 have h1 := h.quiet.like (r' := leadR r r.ds) rfl rfl rfl rfl rfl rfl rfl
 cases ha : p.aB with
 | none => exact h1
 | some x => exact h1.wipe5 (g := x.block) (h.b.col x ha) (fun y hy => by cases hy)
theorem wipeO_big {a : Option Addr} {col : Nat → Nat} {b : Nat} (h : 8 < col b) : 8 < wipeO a col b := by
 cases a with
 | none => exact h
 | some x =>
  show 8 < wipe x.block col b
  by_cases e : b = x.block
  ·rw [e]; exact wipe_at _ _
  rw [wipe_of e]; exact h
structure LdT (B g : Nat) (w : World) (col : Nat → Nat) (r : Rc) (aB : Option Addr) (L : List Sl) (p' : RcP) (X' : RcX) (c' : Nat → Nat) (v : World) : Prop where
 k : Blk v g (rcV (leadR r L) p') 41
 has : RcHas B v (leadR r L) p' X' c'
 cg : 8 < c' g
 bb : ∀ x, aB = some x → x.block < w.heap.size ∧ x.block ≠ g ∧ v.heap[x.block]? = w.heap[x.block]? ∧ 8 < c' x.block
 bel : Below B w v
 oth : ∀ b, b < w.heap.size → b ≠ g → 8 < col b → v.heap[b]? = w.heap[b]? ∧ 8 < c' b
theorem LdT.drew {B g : Nat} {w : World} {col : Nat → Nat} {r : Rc} {aB : Option Addr} {L : List Sl} {p' : RcP} {X' : RcX} {c' : Nat → Nat} {v : World} (h : LdT B g w col r aB L p' X' c' v) (hg : B ≤ g) : LdT B g w col r aB L p' X' c' v.drew :=
 ⟨h.k, h.has.ext (Below.refl _ _).drew, h.cg, h.bb, h.bel.trans (Below.refl _ _).drew, h.oth⟩
theorem LdT.next {B g : Nat} {w : World} {col : Nat → Nat} {r : Rc} {aB : Option Addr} {L L2 : List Sl} {p' : RcP} {X' : RcX} {c' : Nat → Nat} {v v' : World} (h : LdT B g w col r aB L p' X' c' v) (gp : GPost B g v c' (leadR r L2) v') : ∃ p2 X2 c2, LdT B g w col r aB L2 p2 X2 c2 v' := by
 obtain ⟨p2, X2, c2, k, has, hc, hb, ot⟩ := gp
 have hsz : w.heap.size ≤ v.heap.size := h.bel.size
 refine ⟨p2, X2, c2, k, has, hc, fun x hx => ?_, h.bel.trans hb, fun b hlt hne h8 => ?_⟩
 ·obtain ⟨q1, q2, q3, q4⟩ := h.bb x hx
  obtain ⟨q5, q6⟩ := ot x.block (by omega) q2 q4
  exact ⟨q1, q2, q5.trans q3, q6⟩
 obtain ⟨q1, q2⟩ := h.oth b hlt hne h8
 obtain ⟨q3, q4⟩ := ot b (by omega) hne q2
 exact ⟨q3.trans q1, q4⟩
theorem LdT.cel {B g : Nat} {w : World} {col : Nat → Nat} {r : Rc} {aB : Option Addr} {L : List Sl} {p' : RcP} {X' : RcX} {c' : Nat → Nat} {v : World} (h : LdT B g w col r aB L p' X' c' v) {gB o : Nat} {u : Option Value} (ha : aB = some ⟨gB, 0, none⟩) (hc : w.cell? ⟨gB, o, none⟩ = u) : v.cell? ⟨gB, o, none⟩ = u :=
 (World.cell?_of_block (show v.heap[(⟨gB, o, none⟩ : Addr).block]? = w.heap[(⟨gB, o, none⟩ : Addr).block]? from (h.bb _ ha).2.2.1)).trans hc
structure LdH (g gB o : Nat) (ba : Int) (t : ByteArray) (w' : World) : Prop where
 cb : w'.cell? ⟨g, 13, none⟩ = some (.int .i64 ba)
 cs : w'.cell? ⟨gB, o, none⟩ = some (.string t)
theorem LdH.drew {g gB o : Nat} {ba : Int} {t : ByteArray} {w' : World} (k : LdH g gB o ba t w') : LdH g gB o ba t w'.drew := ⟨k.cb, k.cs⟩
theorem implLead (B g : Nat) (r : Rc) (p : RcP) (X : RcX) (col : Nat → Nat) (w : World) (hg : B ≤ g) (hk : Blk w g (rcV r p) 41) (hc : 8 < col g) (hd0 : 0 ≤ r.dk) (hd1 : r.dk ≤ r.ds.length) (hS : RcSmall r) (hbw : wfI r.ball) (h : RcHas B w r p X col) :
  Calls Tryz.prog 153 #[.pointer (some ⟨g, 0, none⟩)] w fun e w' => (∃ v, e = .returned v) ∧ GPost B g w col (leadR r (leadDs r r.best)) w' := by
 obtain ⟨aS, cS, aD, cD, aH, cH, aW, cW, aY, cY, aB, cB, aA, cA⟩ := p
 have HG := hid hg
 have BW := hid hbw
 have RD := hid h
 have HD := hid (show r.ds.length ≤ 1048576 ∧ r.best.length ≤ 1048576 from ⟨hS.lD, hS.lB⟩)
 have cK := hk.cell
 have fK := hk.free
 have eqC : ((((((rcV r ⟨aS, cS, aD, cD, aH, cH, aW, cW, aY, cY, aB, cB, aA, cA⟩).setIfInBounds 11 (.bool true)).setIfInBounds 12 (.bool false)).setIfInBounds 14 (.slice none 0 0)).setIfInBounds 15 (.slice none 0 0)).setIfInBounds 16 (.slice none 0 0)) = (rcV (leadR r r.ds) ⟨aS, cS, aD, cD, aH, cH, aW, cW, none, 0, none, 0, none, 0⟩) := by simp [leadR, calmR]
 obtain ⟨V, hV⟩ : ∃ V, V = (((((w.setCell ⟨g, 11, none⟩ (.bool true)).setCell ⟨g, 12, none⟩ (.bool false)).setCell ⟨g, 14, none⟩ (.slice none 0 0)).setCell ⟨g, 15, none⟩ (.slice none 0 0)).setCell ⟨g, 16, none⟩ (.slice none 0 0)) := ⟨_, rfl⟩
 have KF : Blk V g (rcV (leadR r r.ds) ⟨aS, cS, aD, cD, aH, cH, aW, cW, none, 0, none, 0, none, 0⟩) 41 := by
  rw [hV]
  exact blk_eq (((((hk.set (o := 11) (.bool true)).set (o := 12) (.bool false)).set (o := 14) (.slice none 0 0)).set (o := 15) (.slice none 0 0)).set (o := 16) (.slice none 0 0)) eqC
 have ho : ∀ b, b ≠ g → V.heap[b]? = w.heap[b]? := fun b hne => by
  rw [hV]
  exact ((((heap_setCell_other _ ⟨g, 16, none⟩ b _ hne).trans (heap_setCell_other _ ⟨g, 15, none⟩ b _ hne)).trans (heap_setCell_other _ ⟨g, 14, none⟩ b _ hne)).trans (heap_setCell_other _ ⟨g, 12, none⟩ b _ hne)).trans (heap_setCell_other _ ⟨g, 11, none⟩ b _ hne)
 have hcg := wipeO_big (a := aB) hc
 have hasV : RcHas B V (leadR r r.ds) ⟨aS, cS, aD, cD, aH, cH, aW, cW, none, 0, none, 0, none, 0⟩ ⟨X.H, []⟩ (wipeO aB col) := by
  rw [hV]
  exact (((((h.lead0.setCell (q := ⟨g, 11, none⟩) hcg (.bool true)).setCell (q := ⟨g, 12, none⟩) hcg (.bool false)).setCell (q := ⟨g, 14, none⟩) hcg (.slice none 0 0)).setCell (q := ⟨g, 15, none⟩) hcg (.slice none 0 0)).setCell (q := ⟨g, 16, none⟩) hcg (.slice none 0 0))
 have bV : Below B w V := by
  rw [hV]
  exact below_set (below_set (below_set (below_set (below_set (Below.refl B w) hg (.bool true)) hg (.bool false)) hg (.slice none 0 0)) hg (.slice none 0 0)) hg (.slice none 0 0)
 have S0 := hid (show LdT B g w col r aB r.ds ⟨aS, cS, aD, cD, aH, cH, aW, cW, none, 0, none, 0, none, 0⟩ ⟨X.H, []⟩ (wipeO aB col) V from
  ⟨KF, hasV, hcg, fun x hx => by
   have hx5 := h.b.col x hx
   have hne : x.block ≠ g := fun e => by rw [e] at hx5; omega
   exact ⟨(h.b.lt x hx).2, hne, ho _ hne, by rw [show aB = some x from hx]; exact wipe_at _ _⟩, bV, fun b hlt hne h8 => ⟨ho b hne, wipeO_big h8⟩⟩)
 have cF := KF.cell
 have q1 : 0 ≤ r.dk := hd0
 have q2 : r.dk ≤ 1048576 := by have := hS.lD; omega
 have HK := hid (show 0 ≤ r.dk ∧ r.dk ≤ r.ds.length ∧ r.ds.length ≤ 1048576 from ⟨hd0, hd1, hS.lD⟩)
 have e3 : IntKind.i64.wrap (r.dk + 1) = r.dk + 1 := by go_arith
 have e3' : IntKind.i64.wrap ((calmR r).dk + 1) = r.dk + 1 := e3
 rw [hV] at cF
 clear h hc hg hk hS hbw eqC KF hasV bV ho hcg hd0 hd1
 go_enter Tryz.func153, Tryz.ntmps153
 go_wp2_with fail
 rw [← hV]
 clear hV cF cK fK e3 e3'
 go_loopw [3] (fun j wr => ∃ (n0 : Nat) (L : List Sl) (p4 : RcP) (X4 : RcX) (c4 : Nat → Nat), r.dk ≤ n0 ∧ (n0 ≤ r.best.length ∨ (n0 : Int) = r.dk) ∧ j = .int .i64 ((n0 : Int) + 1) ∧ leadL r.ball (r.best.drop n0) n0 L = leadDs r r.best ∧ L.length ≤ 1048576 ∧ LdT B g w col r aB L p4 X4 c4 wr) (fun j _ => r.best.length + 1 - (intOf j).toNat)
 case atStart => exact ⟨r.dk.toNat, r.ds, _, _, _, by omega, .inr (by omega), by simp only [Value.int.injEq, true_and]; omega, rfl, HD.out.1, S0.out⟩
 obtain ⟨n0, L, p4, X4, c4, hn1, hn2, rfl, hlead, hL4, hss⟩ := hrel
 have SS := hid hss
 have HE := hid hlead
 have HL4 := hid hL4
 have HN := hid (show r.dk ≤ n0 ∧ (n0 ≤ r.best.length ∨ (n0 : Int) = r.dk) ∧ n0 ≤ 1048576 from ⟨hn1, hn2, by have := HD.out; have := HK.out; omega⟩)
 clear hss hlead hL4 S0 hn1 hn2
 obtain ⟨v4, hv4⟩ : ∃ v4, v4 = wr := ⟨_, rfl⟩
 rw [← hv4]
 rw [← hv4] at SS
 clear hv4
 have e5 : IntKind.i64.wrap ((n0 : Int) + 1 - 1) = (n0 : Int) := by have := HN.out; rw [IntKind.wrap_i64]; omega
 have e6 : IntKind.i64.wrap ((n0 : Int) + 1 + 1) = (n0 : Int) + 1 + 1 := by have := HN.out; rw [IntKind.wrap_i64]; omega
 have e9 : IntKind.i64.wrap (n0 : Int) = (n0 : Int) := by have := HN.out; rw [IntKind.wrap_i64]; omega
 by_cases hlt : n0 < r.best.length
 ·obtain ⟨s, hs0⟩ : ∃ s, r.best[n0]? = some s := ⟨_, List.getElem?_eq_getElem hlt⟩
  have HSs := hid hs0
  have SG := hid (show s.2.size ≤ maxLen from (RD.out.gd.b n0 s hs0).1)
  obtain ⟨gB, hga, _, hcell, _⟩ := RD.out.b.cell (flat_at r.best n0 s hs0).2
  dsimp only at hga
  have H0 := hid hga
  have CSW := hid (show w.cell? ⟨gB, n0 * 2 + 1, none⟩ = some (.string s.2) by first | exact hcell | simpa [Nat.mul_comm] using hcell)
  subst hga
  clear hs0 hcell
  have u1 : decide ((n0 : Int) + 1 ≤ (r.best.length : Int)) = true := decide_eq_true (by omega)
  have e7 : (0 : Int) ≤ (n0 : Int) := by omega
  have e8 : (n0 : Int) < (r.best.length : Int) := by omega
  go_wp2_with fail
  have hK0 : LdH g gB (n0 * 2 + 1) r.ball s.2 v4 := ⟨SS.out.k.cell 13, SS.out.cel rfl CSW.out⟩
  refine wp_region_held_drew (S := LdH g gB (n0 * 2 + 1) r.ball s.2) (by kernel_rfl) hK0.drew (fun hHeld => ?_)
  simp only [qz, Nat.reduceAdd]
  clear hK0
  refine planH.go [0, 1, 2, 3, 4, 5, 6, 7, 8, 9, 10, 11, 12, 13, 14] ?_
  iterate 15 (apply planH.take (at_lit rfl) (by kernel_rfl) (by rfl) (fun _ _ _ h => h) hHeld; (· intro w9 hSw; have hc := hSw.cb; have hs := hSw.cs; clear hSw; go_simp; try with_reducible rfl); try simp only [qq])
  refine planH.fin ?_
  refine rdH 15 (by kernel_rfl) (at_lit rfl) (fun K hK => ?_)
  go_simp
  have S5 := hid (SS.out.drew HG.out)
  have CALL := implPut B g (leadR r L) p4 X4 c4 n0 (r.ball, s.2) v4.drew HG.out S5.out.k S5.out.cg (by have := HD.out; omega) (by have := HL4.out; exact this) ⟨SG.out, BW.out⟩ S5.out.has
  rw [show ((n0 + 1 : Nat) : Int) = (n0 : Int) + 1 by omega] at CALL
  refine CALL.mono ?_
  clear CALL
  rintro e z5 ⟨⟨u, rfl⟩, gp⟩
  obtain ⟨p5, X5, c5, ts5⟩ := S5.out.next gp
  have N5 := hid ts5
  clear gp ts5
  go_wp2_with fail
  refine hK.out _ _ ⟨by rw [N5.out.k.cell 13]; rfl, N5.out.cel rfl CSW.out⟩ (fun _ => ?_)
  clear hK K hHeld
  try simp only [qq]
  refine wpAnyH_done (by kernel_rfl) ?_ _
  go_wp2_with fail
  go_roundw
  case rel =>
   refine ⟨n0 + 1, setL L (n0 + 1) (r.ball, s.2), p5, X5, c5, by have := HN.out; omega, .inl (by omega), by go_num, ?_, ?_, N5.out⟩
   ·rw [← HE.out]
    have hdr := List.drop_eq_getElem_cons hlt
    have hss := HSs.out
    rw [List.getElem?_eq_getElem hlt] at hss
    simp only [Option.some.injEq] at hss
    rw [hdr, hss]
    rfl
   rw [setL_len]
   have := HL4.out
   have := HD.out
   omega
  case measure => simp [intOf]; omega
 have u1 : decide ((n0 : Int) + 1 ≤ (r.best.length : Int)) = false := decide_eq_false (by omega)
 have FIN := hid (show leadDs r r.best = L by
  rw [← HE.out, List.drop_of_length_le (by omega)]
  rfl)
 go_wp2_with fail
 first | refine bodyPost_end (results_none rfl _ _ _) rfl ?_ | refine bodyPost_ret (results_none rfl _ _ _) rfl ?_
 rw [FIN.out]
 exact ⟨⟨_, rfl⟩, p4, X4, c4, SS.out.k, SS.out.has, SS.out.cg, SS.out.bel, SS.out.oth⟩
end Go.Proofs.YtffklmlljekceaaGreat
