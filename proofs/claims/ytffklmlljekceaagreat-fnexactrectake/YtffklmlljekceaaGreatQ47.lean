import Derived.Test.YtffklmlljekceaaGreatQ39
import Derived.Test.YtffklmlljekceaaGreatQ46
namespace Go.Proofs.YtffklmlljekceaaGreat
open Go.ChangeShapes Go.WideShapes Go.ChangeAt Go.RowKit
set_option linter.unusedSimpArgs false
set_option linter.unusedVariables false
set_option maxHeartbeats 16000000
set_option maxRecDepth 20000
structure TkP (g : Nat) (c cm : Array Value) (w' : World) : Prop where
 bt : Blk w' g c 121
 bm : Blk w' (g + 1) cm 45
theorem TkP.drew {g : Nat} {c cm : Array Value} {w' : World} (h : TkP g c cm w') : TkP g c cm w'.drew := ⟨h.bt, h.bm⟩
theorem implPrepare (B g pb : Nat) (r : Rc) (p : RcP) (X : RcX) (col : Nat → Nat) (m : MsgH) (mv : Value) (w : World) (hg : B ≤ g) (hk : Blk w g (rcV r p) 41) (hc : 8 < col g) (hp : Blk w pb #[.pointer (some ⟨g, 0, none⟩)] 74) (hpc : 8 < col pb) (hne : pb ≠ g) (hS : RcSmall r) (h : RcHas B w r p X col) :
  Calls Tryz.prog 101 #[.agg (tkV g pb), .agg (msgV m mv)] w fun e w' => (∃ u, e = .returned u) ∧ GPost B g w col (prep1 r m) w' := by
 have HG := hid hg
 have HH := hid hS
 clear hS
 obtain ⟨V, hV⟩ : ∃ V, V = (w.alloc (.cells (tkV g pb) 121)).alloc (.cells (msgV m mv) 45) := ⟨_, rfl⟩
 have S0 := hid (show TS B g pb w col m mv r p X (colF w.heap.size col) V by rw [hV]; exact TS.start hg hk hc hp hpc hne h)
 clear h hg hk hc hp hpc hne
 have cT := S0.out.kt.cell
 have cM := S0.out.km.cell
 have cK := S0.out.k.cell
 rw [hV] at cT cM cK
 by_cases g1 : m.b ≤ r.dp
 ·have u1 : decide (m.b ≤ r.dp) = true := decide_eq_true g1
  have FIN := hid (show prep1 r m = holdR r ⟨9, 0, m.f, r.dp, 0, 0, ⟨#[]⟩⟩ [] by unfold prep1; rw [if_pos g1])
  go_enter Tryz.func101, Tryz.ntmps101
  go_wp2_with fail
  go_quiet (fail)
  rw [← hV]
  obtain ⟨V1, hV1⟩ : ∃ v, v = V.drewN nq := ⟨_, rfl⟩
  have S1 := hid (show TS B g pb w col m mv r p X (colF w.heap.size col) V1 by rw [hV1]; exact S0.out.ext HG.out (Go.below_drewN (Below.refl _ _) _))
  rw [← hV1]
  clear hV1 cT cM cK nq
  have cT := S1.out.kt.cell
  have cM := S1.out.km.cell
  have cK := S1.out.k.cell
  go_wp2_with fail
  refine (implSayNo B g pb r p X _ m.f _ HG.out S1.out.k S1.out.cg S1.out.kp S1.out.cp S1.out.ne S1.out.has).mono ?_
  rintro e z ⟨⟨u, rfl⟩, gp⟩
  have GP := hid (S1.out.out gp)
  clear gp
  go_wp2_with fail
  first | refine bodyPost_end (results_none rfl _ _ _) rfl ?_ | refine bodyPost_ret (results_none rfl _ _ _) rfl ?_
  rw [FIN.out]
  exact ⟨⟨_, rfl⟩, GP.out⟩
 have u1 : decide (m.b ≤ r.dp) = false := decide_eq_false g1
 have FIN := hid (show prep1 r m = holdR (followR r m.b) ⟨2, 0, m.f, m.b, 0, 0, ⟨#[]⟩⟩ (followR r m.b).ds by unfold prep1; rw [if_neg g1])
 go_enter Tryz.func101, Tryz.ntmps101
 go_wp2_with fail
 go_quiet (fail)
 rw [← hV]
 obtain ⟨V1, hV1⟩ : ∃ v, v = V.drewN nq := ⟨_, rfl⟩
 have S1 := hid (show TS B g pb w col m mv r p X (colF w.heap.size col) V1 by rw [hV1]; exact S0.out.ext HG.out (Go.below_drewN (Below.refl _ _) _))
 rw [← hV1]
 clear hV1 cT cM cK nq
 have cT := S1.out.kt.cell
 have cM := S1.out.km.cell
 have cK := S1.out.k.cell
 go_wp2_with fail
 refine (implFollow B g r p X _ m.b _ HG.out S1.out.k S1.out.cg S1.out.has).mono ?_
 obtain ⟨r2, hr2⟩ : ∃ x, x = followR r m.b := ⟨_, rfl⟩
 rw [← hr2]
 have ER2 := hid hr2
 clear hr2
 rintro e z2 ⟨⟨u, rfl⟩, gp⟩
 obtain ⟨p2, X2, c2, ts2⟩ := S1.out.next gp
 have S3 := hid ts2
 clear gp ts2 cT cM cK
 have cT := S3.out.kt.cell
 have cM := S3.out.km.cell
 have cK := S3.out.k.cell
 go_wp2_with fail
 have hK0 : TkP w.heap.size (tkV g pb) (msgV m mv) z2 := ⟨S3.out.kt, S3.out.km⟩
 refine wp_region_held_drew (S := TkP w.heap.size (tkV g pb) (msgV m mv)) (by kernel_rfl) hK0.drew (fun hHeld => ?_)
 simp only [qz, Nat.reduceAdd]
 clear hK0 cT cM
 refine planH.go [0, 1, 2, 3, 4, 5, 6, 7, 8, 9, 10] ?_
 iterate 11 (apply planH.take (at_lit rfl) (by kernel_rfl) (by rfl) (fun _ _ _ h => h) hHeld; (· intro w9 hSw; have hq := hSw.bt.cell; have hm := hSw.bm.cell; clear hSw; go_simp; try with_reducible rfl); try simp only [qq])
 refine planH.fin ?_
 refine rdH 11 (by kernel_rfl) (at_lit rfl) (fun K hK => ?_)
 go_simp
 refine hK.out _ _ hHeld (fun hNew => ?_)
 clear hK K hNew
 try simp only [qq]
 refine rdH 12 (by kernel_rfl) (at_lit rfl) (fun K hK => ?_)
 go_simp
 clear cK
 have S5 := hid (S3.out.ext HG.out (show Below z2.heap.size z2 z2.drew from (Below.refl _ _).drew))
 refine (copyS p2.aD r2.ds.length p2.cD (flat r2.ds) z2.drew S5.out.has.d.read (by rw [ER2.out, followR_ds]; exact HH.out.lD) (flat_one _)).mono ?_
 rintro e v8 ⟨a8, c8, rfl, o8, hb8⟩
 have S8 := hid (S5.out.ext HG.out hb8)
 have Z8 := hid (show RowZ z2.heap.size v8.heap.size v8 108 2 a8 r2.ds.length c8 (flat r2.ds) from o8)
 have E8 := hid (show Below z2.heap.size z2 v8 from (show Below z2.heap.size z2 z2.drew from (Below.refl _ _).drew).trans hb8)
 have HF8 := hid (show RcHas B v8 r2 p2 X2 (colF z2.heap.size c2) from S3.out.has.fresh.ext E8.out)
 clear o8
 go_wp2_with fail
 refine hK.out _ _ ⟨S8.out.kt, S8.out.km⟩ (fun hNew => ?_)
 clear hK K hHeld hb8
 have hHeld := hNew
 clear hNew
 try simp only [qq]
 refine planH.go [13] ?_
 iterate 1 (apply planH.take (at_lit rfl) (by kernel_rfl) (by rfl) (fun _ _ _ h => h) hHeld; (· intro w9 hSw; have hq := hSw.bt.cell; have hm := hSw.bm.cell; clear hSw; go_simp; try with_reducible rfl); try simp only [qq])
 refine planH.fin ?_
 refine rdH 14 (by kernel_rfl) (at_lit rfl) (fun K hK => ?_)
 go_simp
 have CP := hid (show ∀ b, b < z2.heap.size → colN a8 7 (colF z2.heap.size c2) b = c2 b from fun b hb => by
  unfold colN
  split
  ·rename_i e
   rw [Option.map_eq_some_iff] at e
   obtain ⟨y, hy, rfl⟩ := e
   have := (Z8.out.lo y hy).1
   omega
  exact colF_old hb)
 have HP := hid (HF8.out.paint (u := 7) (a' := a8) (fun x hx => by rw [colF_new (Z8.out.lo x hx).1]; omega))
 have TP := hid (show TS B g pb w col m mv r2 p2 X2 (colN a8 7 (colF z2.heap.size c2)) v8 from
  ⟨S8.out.k, S8.out.kp, S8.out.kt, S8.out.km, HP.out, by rw [CP.out _ S3.out.k.lt]; exact S3.out.cg, by rw [CP.out _ S3.out.kp.lt]; exact S3.out.cp, by rw [CP.out _ S3.out.kt.lt]; exact S3.out.ct, by rw [CP.out _ S3.out.km.lt]; exact S3.out.cm, S8.out.bel, fun b hb hne h8 => ⟨(S8.out.oth b hb hne h8).1, by rw [CP.out b (by have := S3.out.km.lt; omega)]; exact (S3.out.oth b hb hne h8).2⟩, S3.out.ne, S3.out.lg⟩)
 refine (implHold1 B g pb r2 p2 X2 (colN a8 7 (colF z2.heap.size c2)) ⟨2, 0, m.f, m.b, 0, 0, ⟨#[]⟩⟩ a8 r2.ds c8 v8 HG.out TP.out.k TP.out.cg TP.out.kp TP.out.cp TP.out.ne TP.out.has ((RowC.mk (B := z2.heap.size) Z8.out.own (fun x hx => colN_at hx)).low (Nat.le_trans HG.out (Nat.le_of_lt S3.out.k.lt))) (fun q hq x x' hx hx' e => by
  have h2 := (S3.out.has.hi.row q hq).lt x hx
  rw [e] at h2
  have := (Z8.out.lo x' hx').1
  omega) (Nat.zero_le _) TP.out.has.gd.d).mono ?_
 obtain ⟨r9, hr9⟩ : ∃ x, x = holdR r2 ⟨2, 0, m.f, m.b, 0, 0, ⟨#[]⟩⟩ r2.ds := ⟨_, rfl⟩
 rw [← hr9]
 have FI9 := hid (show prep1 r m = r9 by rw [FIN.out, ← ER2.out, hr9])
 clear hr9
 rintro e z9 ⟨⟨u, rfl⟩, gp⟩
 obtain ⟨p9, X9, c9, ts9⟩ := TP.out.next gp
 have S9 := hid ts9
 clear gp ts9
 go_wp2_with fail
 refine hK.out _ _ ⟨S9.out.kt, S9.out.km⟩ (fun _ => ?_)
 clear hK K hHeld
 try simp only [qq]
 refine wpAnyH_done (by kernel_rfl) ?_ _
 go_wp2_with fail
 first | refine bodyPost_end (results_none rfl _ _ _) rfl ?_ | refine bodyPost_ret (results_none rfl _ _ _) rfl ?_
 rw [FI9.out]
 exact ⟨⟨_, rfl⟩, S9.out.post⟩
theorem adj_asc {ks : List Int} (h : ∀ i, 0 < i → i < ks.length → ks.getD (i - 1) 0 < ks.getD i 0) : ∀ (d i : Nat), i + d + 1 < ks.length → ks.getD i 0 < ks.getD (i + d + 1) 0
 | 0, i, hl => by have := h (i + 1) (by omega) (by omega); simpa using this
 | d + 1, i, hl => by
  have h1 := adj_asc h d i (by omega)
  have h2 := h (i + (d + 1) + 1) (by omega) hl
  have e : i + (d + 1) + 1 - 1 = i + d + 1 := by omega
  rw [e] at h2
  omega
theorem ascI_of {high : Int} {l : List Int} (h : numsOkB high l = true) : AscI l := fun i j s t hs ht hij => by
 unfold numsOkB at h
 rw [List.all_eq_true] at h
 have hj : j < l.length := (List.getElem?_eq_some_iff.1 ht).1
 have adj : ∀ i, 0 < i → i < l.length → l.getD (i - 1) 0 < l.getD i 0 := fun i hi hl => by
  have := h i (by simpa using hl)
  unfold numAtB at this
  simp only [Bool.and_eq_true, Bool.or_eq_true, decide_eq_true_eq] at this
  rcases this.2 with h0 | h0
  ·omega
  exact h0
 obtain ⟨d, rfl⟩ : ∃ d, j = i + d + 1 := ⟨j - i - 1, by omega⟩
 have := adj_asc adj d i hj
 simpa [List.getD, hs, ht] using this
theorem ascA_of {high : Int} {l : List Ak} (h : numsOkB high (keysOf l) = true) : AscA l := fun i j s t hs ht hij =>
 ascI_of h i j s.1 t.1 (by simp [keysOf, hs]) (by simp [keysOf, ht]) hij
def methOf (k : Int) : FuncId := if k = 1 then 101 else if k = 2 then 102 else if k = 3 then 103 else if k = 4 then 104 else if k = 5 then 105 else if k = 6 then 106 else if k = 7 then 107 else if k = 8 then 108 else 109
theorem refuse_same (r : Rc) (b : Int) : refuseR r b = refuse9 r b := by
 unfold refuseR refuse9
 by_cases h : (r.lead || r.tr) = true ∧ r.ball < b
 ·rw [if_pos h, if_pos ⟨h.2, h.1⟩]
 rw [if_neg h, if_neg (fun q => h ⟨q.2, q.1⟩)]
theorem implMeth (B g pb : Nat) (r : Rc) (p : RcP) (X : RcX) (col : Nat → Nat) (m : MsgH) (al : Option Addr) (l : List Sl) (cl : Nat) (w : World) (hg : B ≤ g) (hk : Blk w g (rcV r p) 41) (hc : 8 < col g) (hp : Blk w pb #[.pointer (some ⟨g, 0, none⟩)] 74) (hpc : 8 < col pb) (hne : pb ≠ g)
  (hv : validB r = true) (hS : RcSmall r) (hm : msgOkB m r.of_ l = true) (hcl : l.length ≤ cl ∧ cl ≤ maxLen) (hsl : SlotsAt w al l) (hsa : ∀ x, al = some x → x.block < B) (h : RcHas B w r p X col) :
  Calls Tryz.prog (methOf m.k) #[.agg (tkV g pb), .agg (msgV m (.slice al l.length cl))] w fun e w' => (∃ u, e = .returned u) ∧ GPost B g w col (takeR r m l) w' := by
 have hr := valid_take hv hS
 have hv2 := hv
 unfold validB at hv2
 simp only [Bool.and_eq_true] at hv2
 obtain ⟨⟨⟨⟨⟨⟨⟨⟨⟨⟨⟨⟨h1, h2⟩, h3⟩, h4⟩, h5⟩, h6⟩, h7⟩, h8⟩, h9⟩, h10⟩, h11⟩, h12⟩, h13⟩ := hv2
 have hyes : numsOkB r.of_ r.yes = true := h8
 have hack : numsOkB 60 (keysOf r.acks) = true ∧ (r.acks.all fun s => numsOkB r.of_ s.2) = true := by simpa only [acksOkB, Bool.and_eq_true] using h10
 have hof : 1 ≤ r.of_ ∧ r.of_ ≤ 5 := inB_iff.1 h1
 clear h1 h2 h3 h4 h5 h6 h7 h8 h9 h10 h11 h12 h13
 have hyl := nums_len hyes (by omega)
 have hal : r.acks.length ≤ 60 := by have := nums_len hack.1 (by omega); rw [keys_len] at this; omega
 have hai : ∀ (j : Nat) a, r.acks[j]? = some a → a.2.length ≤ 1000 ∧ AscI a.2 := fun j a hj => by
  have h9 := List.all_eq_true.1 hack.2 a (List.mem_of_getElem? hj)
  have := nums_len h9 (by omega)
  exact ⟨by omega, ascI_of h9⟩
 simp only [msgOkB, Bool.and_eq_true, decide_eq_true_eq, inB_iff] at hm
 obtain ⟨⟨⟨⟨⟨⟨⟨hk1, hf⟩, ht⟩, hb⟩, hi⟩, hn⟩, hx⟩, hs⟩ := hm
 have hl : l.length ≤ 60 := by simp only [slotsOkB, Bool.and_eq_true, decide_eq_true_eq] at hs; exact hs.1
 have hx' : m.x.size ≤ 100 := by omega
 have hxm : m.x.size ≤ maxLen := by unfold maxLen; omega
 have wb : wfI m.b := wf_small hb.1 hb.2
 have wf : wfI m.f := wf_small (by omega) (by omega)
 have wi : wfI m.i := wf_small hi.1 (by omega)
 obtain ⟨mk, mf, mt, mb, mi, mn, mx⟩ := m
 dsimp only at *
 have hk9 : mk = 1 ∨ mk = 2 ∨ mk = 3 ∨ mk = 4 ∨ mk = 5 ∨ mk = 6 ∨ mk = 7 ∨ mk = 8 ∨ mk = 9 := by omega
 rcases hk9 with rfl | rfl | rfl | rfl | rfl | rfl | rfl | rfl | rfl
 ·exact implPrepare B g pb r p X col ⟨1, mf, mt, mb, mi, mn, mx⟩ _ w hg hk hc hp hpc hne hr.sm h
 ·exact implPromised B g pb r p X col ⟨2, mf, mt, mb, mi, mn, mx⟩ al l cl w hg hk hc hp hpc hne hr.d0 hr.d1 hr.sm hr.ba wf (by omega) (ascI_of hyes) (by omega) hcl hsl hsa h
 ·exact implAccept B g pb r p X col ⟨3, mf, mt, mb, mi, mn, mx⟩ _ w hg hk hc hp hpc hne hr.sm hxm wb (by dsimp only; omega) h
 ·exact implAccepted B g pb r p X col ⟨4, mf, mt, mb, mi, mn, mx⟩ _ w hg hk hc hp hpc hne hr.d0 hr.d1 hr.sm (by omega) (ascA_of hack.1) hai wi wf h
 ·exact implBeat B g pb r p X col ⟨5, mf, mt, mb, mi, mn, mx⟩ _ w hg hk hc hp hpc hne hb.1 hr.d0 hr.d1 hr.sm h
 ·exact implChosen B g _ r p X col ⟨6, mf, mt, mb, mi, mn, mx⟩ _ w hg hk hc hr.d0 hr.d1 hr.sm hxm wb h
 ·obtain ⟨q, rfl⟩ : ∃ q : Nat, mi = (q : Int) := ⟨mi.toNat, by omega⟩
  exact implNeed B g pb r p X col 7 mf mt mb mn q mx _ w hg hk hc hp hpc hne hr.d0 hr.d1 hr.sm (by omega) h
 ·exact implWished B g _ r p X col ⟨8, mf, mt, mb, mi, mn, mx⟩ _ w hg hk hc hv (by dsimp only; omega) h
 have h9 := implRefuse B g (.func (.func 133) #[] #[.pointer (some ⟨pb, 0, none⟩)]) r p X col ⟨9, mf, mt, mb, mi, mn, mx⟩ (.slice al l.length cl) w hg hk hc h
 rw [refuse_same] at h9
 exact h9
structure TkF (mb ab k : Nat) (cm : Array Value) (f : Value) (w' : World) : Prop where
 bm : Blk w' mb cm 45
 ck : w'.cell? ⟨ab, k, none⟩ = some f
theorem TkF.drew {mb ab k : Nat} {cm : Array Value} {f : Value} {w' : World} (h : TkF mb ab k cm f w') : TkF mb ab k cm f w'.drew := ⟨h.bm, h.ck⟩
theorem enter_of {P : Program} {f : FuncId} {fn : Func} {c : Code} (hf : P.funcs[f]? = some fn) (hname : (fn.name == "runtime.NumGoroutine") = false) (hb : fn.body = some c) (args : Array Value) (w : World) : (callFunc f args).run P w = .ok (.enter f args) w := by
 have h1 : fn.name ≠ "runtime.NumGoroutine" := by simpa using hname
 simp [callFunc, hf, h1, hb]
theorem run_meth (k : Nat) (hk : 1 ≤ k ∧ k ≤ 9) (args : Array Value) (w : World) : (callFunc (methOf (k : Int)) args).run Tryz.prog w = .ok (.enter (methOf (k : Int)) args) w := by
 have : k = 1 ∨ k = 2 ∨ k = 3 ∨ k = 4 ∨ k = 5 ∨ k = 6 ∨ k = 7 ∨ k = 8 ∨ k = 9 := by omega
 rcases this with rfl | rfl | rfl | rfl | rfl | rfl | rfl | rfl | rfl
 ·exact enter_of (P := Tryz.prog) Tryz.func101 (by kernel_rfl) (c := _) rfl args w
 ·exact enter_of (P := Tryz.prog) Tryz.func102 (by kernel_rfl) (c := _) rfl args w
 ·exact enter_of (P := Tryz.prog) Tryz.func103 (by kernel_rfl) (c := _) rfl args w
 ·exact enter_of (P := Tryz.prog) Tryz.func104 (by kernel_rfl) (c := _) rfl args w
 ·exact enter_of (P := Tryz.prog) Tryz.func105 (by kernel_rfl) (c := _) rfl args w
 ·exact enter_of (P := Tryz.prog) Tryz.func106 (by kernel_rfl) (c := _) rfl args w
 ·exact enter_of (P := Tryz.prog) Tryz.func107 (by kernel_rfl) (c := _) rfl args w
 ·exact enter_of (P := Tryz.prog) Tryz.func108 (by kernel_rfl) (c := _) rfl args w
 exact enter_of (P := Tryz.prog) Tryz.func109 (by kernel_rfl) (c := _) rfl args w
theorem wpList_store_arr {ops : Array Oper} {rest : List Oper} {dst : Option Tmp} {x y : Operand} {τ : TypeId} {pos : String} {after : Array Edge} {a : Act} {w0 : World} {c : Array Value} {Q : Exit → Act → World → Prop}
  (cells : Array Value) (hs : cells.size = 10) (hx : a.eval x = .pointer (some ⟨w0.heap.size, 0, none⟩)) (hy : a.eval y = .agg cells) (hc : c.size = 10) (h1 : cells.all (·.oneCell') = true)
  (h : wpList Tryz.prog ops Q rest (a.put dst undef) (w0.alloc (.cells cells 122))) :
  wpList Tryz.prog ops Q ({ dst := dst, op := .store 122 x y, type := τ, pos := pos, after := after, guard := none } :: rest) a (w0.alloc (.cells c 122)) :=
 wpList_store_last cells hx hy (by rw [hs]; kernel_rfl) (by rw [hc, hs]) h1 h
theorem wpList_store_tk {ops : Array Oper} {rest : List Oper} {dst : Option Tmp} {x y : Operand} {τ : TypeId} {pos : String} {after : Array Edge} {a : Act} {w0 : World} {c : Array Value} {Q : Exit → Act → World → Prop}
  (cells : Array Value) (hs : cells.size = 2) (hx : a.eval x = .pointer (some ⟨w0.heap.size, 0, none⟩)) (hy : a.eval y = .agg cells) (hc : c.size = 2) (h1 : cells.all (·.oneCell') = true)
  (h : wpList Tryz.prog ops Q rest (a.put dst undef) (w0.alloc (.cells cells 121))) :
  wpList Tryz.prog ops Q ({ dst := dst, op := .store 121 x y, type := τ, pos := pos, after := after, guard := none } :: rest) a (w0.alloc (.cells c 121)) :=
 wpList_store_last cells hx hy (by rw [hs]; kernel_rfl) (by rw [hc, hs]) h1 h
theorem implTake (B g : Nat) (r : Rc) (p : RcP) (X : RcX) (col : Nat → Nat) (m : MsgH) (al : Option Addr) (l : List Sl) (cl : Nat) (w : World) (hg : B ≤ g) (hk : Blk w g (rcV r p) 41) (hc : 8 < col g)
  (hv : validB r = true) (hS : RcSmall r) (hm : msgOkB m r.of_ l = true) (hcl : l.length ≤ cl ∧ cl ≤ maxLen) (hsl : SlotsAt w al l) (hsa : ∀ x, al = some x → x.block < B) (h : RcHas B w r p X col) :
  Calls Tryz.prog 41 #[.pointer (some ⟨g, 0, none⟩), .agg (msgV m (.slice al l.length cl))] w fun e w' => (∃ u, e = .returned u) ∧ GPost B g w col (takeR r m l) w' := by
 obtain ⟨k, hk9⟩ : ∃ k : Nat, m.k = (k : Int) ∧ 1 ≤ k ∧ k ≤ 9 := by
  have h9 := hm
  simp only [msgOkB, Bool.and_eq_true, decide_eq_true_eq, inB_iff] at h9
  obtain ⟨⟨⟨⟨⟨⟨⟨hk1, _⟩, _⟩, _⟩, _⟩, _⟩, _⟩, _⟩ := h9
  exact ⟨m.k.toNat, by omega, by omega, by omega⟩
 have HK9 := hid hk9
 have HG := hid hg
 have ALL := hid (show validB r = true ∧ RcSmall r ∧ msgOkB m r.of_ l = true ∧ (l.length ≤ cl ∧ cl ≤ maxLen) ∧ SlotsAt w al l ∧ (∀ x, al = some x → x.block < B) from ⟨hv, hS, hm, hcl, hsl, hsa⟩)
 obtain ⟨mv, hmv⟩ : ∃ mv, mv = Value.slice al l.length cl := ⟨_, rfl⟩
 rw [← hmv]
 have HMV := hid hmv
 clear hmv
 obtain ⟨V, hV⟩ : ∃ V, V = (((w.alloc (.cells (msgV m mv) 45)).alloc (.cells #[.pointer (some ⟨g, 0, none⟩)] 74)).alloc (.cells (tkV g (w.heap.size + 1)) 121)).alloc (.cells #[.nilFunc, .func (.func 101) #[.agg (tkV g (w.heap.size + 1))] #[], .func (.func 102) #[.agg (tkV g (w.heap.size + 1))] #[], .func (.func 103) #[.agg (tkV g (w.heap.size + 1))] #[], .func (.func 104) #[.agg (tkV g (w.heap.size + 1))] #[], .func (.func 105) #[.agg (tkV g (w.heap.size + 1))] #[], .func (.func 106) #[.agg (tkV g (w.heap.size + 1))] #[], .func (.func 107) #[.agg (tkV g (w.heap.size + 1))] #[], .func (.func 108) #[.agg (tkV g (w.heap.size + 1))] #[], .func (.func 109) #[.agg (tkV g (w.heap.size + 1))] #[]] 122) := ⟨_, rfl⟩
 have E1 := hid (show Below w.heap.size w V by rw [hV]; exact ext_alloc (ext_alloc (ext_alloc (ext_alloc (Below.refl _ _) _) _) _) _)
 have KM := hid (show Blk V w.heap.size (msgV m mv) 45 by rw [hV]; exact (((Blk.new _ _ _).alloc _).alloc _).alloc _)
 have KP := hid (show Blk V (w.heap.size + 1) #[.pointer (some ⟨g, 0, none⟩)] 74 by rw [hV]; exact ((Blk.new' _ _ (by simp)).alloc _).alloc _)
 have KA := (show Blk V (w.heap.size + 1 + 1 + 1) #[.nilFunc, .func (.func 101) #[.agg (tkV g (w.heap.size + 1))] #[], .func (.func 102) #[.agg (tkV g (w.heap.size + 1))] #[], .func (.func 103) #[.agg (tkV g (w.heap.size + 1))] #[], .func (.func 104) #[.agg (tkV g (w.heap.size + 1))] #[], .func (.func 105) #[.agg (tkV g (w.heap.size + 1))] #[], .func (.func 106) #[.agg (tkV g (w.heap.size + 1))] #[], .func (.func 107) #[.agg (tkV g (w.heap.size + 1))] #[], .func (.func 108) #[.agg (tkV g (w.heap.size + 1))] #[], .func (.func 109) #[.agg (tkV g (w.heap.size + 1))] #[]] 122 by rw [hV]; exact Blk.new' _ _ (by simp))
 have CK := hid (show V.cell? ⟨w.heap.size + 1 + 1 + 1, k, none⟩ = some (.func (.func (methOf (k : Int))) #[.agg (tkV g (w.heap.size + 1))] #[]) by
  rw [KA.cell]
  obtain ⟨_, h1, h2⟩ := hk9
  have : k = 1 ∨ k = 2 ∨ k = 3 ∨ k = 4 ∨ k = 5 ∨ k = 6 ∨ k = 7 ∨ k = 8 ∨ k = 9 := by omega
  rcases this with rfl | rfl | rfl | rfl | rfl | rfl | rfl | rfl | rfl <;> rfl)
 have VSZ := hid (show V.heap.size = w.heap.size + 4 by rw [hV]; simp)
 have K1 := hid (hk.ext E1.out)
 have R1 := hid (h.fresh.ext E1.out)
 have C1 := hid (show 8 < colF w.heap.size col g by rw [colF_old hk.lt]; exact hc)
 have LG := hid hk.lt
 have e1 : (0 : Int) ≤ (k : Int) := by omega
 have e2 : (k : Int) < 10 := by have := hk9.2.2; omega
 have EK : m.k = (k : Int) := hk9.1
 clear h hg hk hc hv hS hm hcl hsl hsa KA hk9
 obtain ⟨mk, mf, mt, mb, mi, mn, mx⟩ := m
 dsimp only at EK
 subst EK
 go_enter Tryz.func41, Tryz.ntmps41
 go_wp2_with (first
  | (go_at_call 100; refine (holdBehind_any _ _).mono ?_; rintro e w' ⟨rfl, hw'⟩; subst w')
  | ((with_reducible refine wpList_store_tk (tkV g (w.heap.size + 1)) rfl ?_ ?_ ?_ ?_ ?_); (· first | rfl | simp [Act.eval]); (· rfl); (· rfl); (· simp [Value.oneCell']))
  | ((with_reducible refine wpList_build_to (ty := 122) #[.nilFunc, .func (.func 101) #[.agg (tkV g (w.heap.size + 1))] #[], .func (.func 102) #[.agg (tkV g (w.heap.size + 1))] #[], .func (.func 103) #[.agg (tkV g (w.heap.size + 1))] #[], .func (.func 104) #[.agg (tkV g (w.heap.size + 1))] #[], .func (.func 105) #[.agg (tkV g (w.heap.size + 1))] #[], .func (.func 106) #[.agg (tkV g (w.heap.size + 1))] #[], .func (.func 107) #[.agg (tkV g (w.heap.size + 1))] #[], .func (.func 108) #[.agg (tkV g (w.heap.size + 1))] #[], .func (.func 109) #[.agg (tkV g (w.heap.size + 1))] #[]] ?_ ?_); (· kernel_rfl))
  | ((with_reducible refine wpList_store_arr #[.nilFunc, .func (.func 101) #[.agg (tkV g (w.heap.size + 1))] #[], .func (.func 102) #[.agg (tkV g (w.heap.size + 1))] #[], .func (.func 103) #[.agg (tkV g (w.heap.size + 1))] #[], .func (.func 104) #[.agg (tkV g (w.heap.size + 1))] #[], .func (.func 105) #[.agg (tkV g (w.heap.size + 1))] #[], .func (.func 106) #[.agg (tkV g (w.heap.size + 1))] #[], .func (.func 107) #[.agg (tkV g (w.heap.size + 1))] #[], .func (.func 108) #[.agg (tkV g (w.heap.size + 1))] #[], .func (.func 109) #[.agg (tkV g (w.heap.size + 1))] #[]] rfl ?_ ?_ ?_ ?_ ?_); (· first | rfl | simp [Act.eval]); (· rfl); (· rfl); (· simp [Value.oneCell'])))
 rw [← hV]
 clear hV
 have hK0 : TkF w.heap.size (w.heap.size + 1 + 1 + 1) k (msgV ⟨(k : Int), mf, mt, mb, mi, mn, mx⟩ mv) (.func (.func (methOf (k : Int))) #[.agg (tkV g (w.heap.size + 1))] #[]) V := ⟨KM.out, CK.out⟩
 refine wp_region_held_drew (S := TkF w.heap.size (w.heap.size + 1 + 1 + 1) k (msgV ⟨(k : Int), mf, mt, mb, mi, mn, mx⟩ mv) (.func (.func (methOf (k : Int))) #[.agg (tkV g (w.heap.size + 1))] #[])) (by kernel_rfl) hK0.drew (fun hHeld => ?_)
 simp only [qz, Nat.reduceAdd]
 clear hK0
 refine planH.go [0, 1, 2, 3, 4] ?_
 iterate 5 (apply planH.take (at_lit rfl) (by kernel_rfl) (by rfl) (fun _ _ _ h => h) hHeld; (· intro w9 hSw; have hq := hSw.bm.cell; have hc := hSw.ck; have hb := hSw.bm; clear hSw; go_simp; try with_reducible rfl); try simp only [qq])
 refine planH.fin ?_
 refine rdH 5 (by kernel_rfl) (at_lit rfl) (fun K hK => ?_)
 go_simp
 rw [run_meth k ⟨HK9.out.2.1, HK9.out.2.2⟩, Oper.upon_enter]
 have CALL := implMeth B g (w.heap.size + 1) r p X (colF w.heap.size col) ⟨(k : Int), mf, mt, mb, mi, mn, mx⟩ al l cl V.drew HG.out (Blk.drew K1.out) C1.out (Blk.drew KP.out) (by rw [colF_new (by omega)]; omega) (by have := LG.out; omega) ALL.out.1 ALL.out.2.1 ALL.out.2.2.1 ALL.out.2.2.2.1 ((ALL.out.2.2.2.2.1.ext E1.out).ext (show Below V.heap.size V V.drew from ⟨rfl, rfl, rfl, Nat.le_refl _, fun _ _ => rfl⟩)) ALL.out.2.2.2.2.2 (R1.out.ext (show Below V.heap.size V V.drew from ⟨rfl, rfl, rfl, Nat.le_refl _, fun _ _ => rfl⟩))
 rw [← HMV.out] at CALL
 refine CALL.mono ?_
 clear CALL
 rintro e z ⟨⟨u, rfl⟩, gp⟩
 have BM := hid (show Blk z w.heap.size (msgV ⟨(k : Int), mf, mt, mb, mi, mn, mx⟩ mv) 45 from by
  obtain ⟨_, _, _, _, _, _, _, ot⟩ := gp
  exact (ot w.heap.size KM.out.lt (by have := LG.out; omega) (by rw [colF_new (Nat.le_refl _)]; omega)).1.trans KM.out)
 have CZ := hid (show z.cell? ⟨w.heap.size + 1 + 1 + 1, k, none⟩ = some (.func (.func (methOf (k : Int))) #[.agg (tkV g (w.heap.size + 1))] #[]) from by
  obtain ⟨_, _, _, _, _, _, _, ot⟩ := gp
  refine (World.cell?_of_block (show z.heap[(⟨w.heap.size + 1 + 1 + 1, k, none⟩ : Addr).block]? = V.heap[(⟨w.heap.size + 1 + 1 + 1, k, none⟩ : Addr).block]? from (ot (w.heap.size + 1 + 1 + 1) (by have := VSZ.out; show w.heap.size + 1 + 1 + 1 < V.heap.size; omega) (by have := LG.out; omega) (by rw [colF_new (by omega)]; omega)).1)).trans CK.out)
 have GP := hid (GPost.chain (w := w) (col := col) ((E1.out.trans (show Below w.heap.size V V.drew from ⟨rfl, rfl, rfl, Nat.le_refl _, fun _ _ => rfl⟩)).mono (Nat.le_trans HG.out (Nat.le_of_lt LG.out))) (fun b hlt hne h8 => ⟨E1.out.block b hlt, by rw [colF_old hlt]; exact h8⟩) gp)
 clear gp
 go_wp2_with fail
 refine hK.out _ _ ⟨BM.out, CZ.out⟩ (fun _ => ?_)
 clear hK K hHeld
 try simp only [qq]
 refine wpAnyH_done (by kernel_rfl) ?_ _
 go_wp2_with fail
 first | refine bodyPost_end (results_none rfl _ _ _) rfl ?_ | refine bodyPost_ret (results_none rfl _ _ _) rfl ?_
 exact ⟨⟨_, rfl⟩, GP.out⟩
end Go.Proofs.YtffklmlljekceaaGreat
