import Derived.Test.YtffklmlljekceaaGreatQ35
namespace Go.Proofs.YtffklmlljekceaaGreat
open Go.ChangeShapes Go.WideShapes Go.ChangeAt Go.RowKit next
set_option linter.unusedSimpArgs false
set_option linter.unusedVariables false
set_option maxHeartbeats 16000000
set_option maxRecDepth 20000
theorem slots_len {l : List Sl} (h : slotsOkB l = true) : l.length ≤ 60 := by
 unfold slotsOkB at h
 simp only [Bool.and_eq_true, decide_eq_true_eq] at h
 omega
theorem disk_len {x y : Int} {l : List Sl} (h : diskOkB x y l = true) : l.length ≤ 60 := by
 simp only [diskOkB, Bool.and_eq_true] at h
 exact slots_len h.1.1.2
theorem valid_num {r : Rc} (h : validB r = true) : 1 ≤ r.num ∧ r.num ≤ r.of_ ∧ r.of_ ≤ 5 := by
 unfold validB at h
 simp only [Bool.and_eq_true] at h
 have h1 := inB_iff.1 h.1.1.1.1.1.1.1.1.1.1.1.1
 have h2 := inB_iff.1 h.1.1.1.1.1.1.1.1.1.1.1.2
 exact ⟨h2.1, h2.2, h1.2⟩
theorem valid_heard {r : Rc} (h : validB r = true) : 0 ≤ r.heard ∧ r.heard ≤ 1000000 := by
 unfold validB at h
 simp only [Bool.and_eq_true] at h
 exact inB_iff.1 h.1.1.1.1.1.1.2
theorem valid_lists {r : Rc} (h : validB r = true) : r.acks.length ≤ 60 ∧ (∀ a ∈ r.acks, a.2.length ≤ 5) ∧ r.ss.length ≤ 60 ∧ r.ds.length ≤ 60 ∧ r.best.length ≤ 60 ∧ r.yes.length ≤ 5 := by
 have hn := valid_num h
 unfold validB at h
 simp only [Bool.and_eq_true] at h
 obtain ⟨⟨⟨⟨⟨⟨⟨⟨⟨⟨⟨⟨h1, h2⟩, h3⟩, h4⟩, h5⟩, h6⟩, h7⟩, h8⟩, h9⟩, h10⟩, h11⟩, h12⟩, h13⟩ := h
 have hac := h10
 simp only [acksOkB, Bool.and_eq_true] at hac
 have ha := nums_len hac.1 (by omega)
 rw [keys_len] at ha
 have hy := nums_len h8 (by omega)
 refine ⟨by omega, fun a hm => ?_, disk_len h3, disk_len h4, slots_len h9, by omega⟩
 have := nums_len (List.all_eq_true.1 hac.2 a hm) (by omega)
 omega
structure T2Ok (x : Rc) : Prop where
 lead : LeadOk 0 x
 ss : x.ss.length ≤ 60
 ds : x.ds.length ≤ 60
 of_ : 1 ≤ x.of_ ∧ x.of_ ≤ 5
 num : 1 ≤ x.num ∧ x.num ≤ 5
 best : x.best.length ≤ 60
 yes : x.yes.length ≤ 6
 held : x.held = []
 heard : 0 ≤ x.heard ∧ x.heard ≤ 1000000
theorem tick1_ok {r : Rc} (h : validB r = true) (hS : RcSmall r) : T2Ok (tick1 r) := by
 have hn := valid_num h
 have hl := valid_lists h
 have ht := valid_take h hS
 have hh := valid_heard h
 refine ⟨⟨ht.d0, ht.d1, ⟨hS.lD, hS.lD, Nat.zero_le _, Nat.le_trans (List.length_filter_le _ _) hS.lW, hS.lY, hS.lB, hS.lA, fun i s hs => by simp [tick1] at hs, hS.nA⟩, (show r.acks.length ≤ 1000 + 0 by have := hl.1; omega), fun a ha => by have := hl.2.1 a ha; omega, ht.ba, wf_small (show 0 ≤ r.num by omega) (show r.num ≤ 1000000 by omega)⟩, hl.2.2.2.1, hl.2.2.2.1, ⟨(show 1 ≤ r.of_ by omega), hn.2.2⟩, ⟨hn.1, (show r.num ≤ 5 by omega)⟩, hl.2.2.2.2.1, (show r.yes.length ≤ 6 by have := hl.2.2.2.2.2; omega), rfl, ?_⟩
 show 0 ≤ (if r.heard < 1000000 then r.heard + 1 else r.heard) ∧ (if r.heard < 1000000 then r.heard + 1 else r.heard) ≤ 1000000
 split <;> omega
theorem leadL_more (b : Int) : ∀ (t : List Sl) (i : Nat) (ds : List Sl), ds.length ≤ (leadL b t i ds).length
 | [], _, ds => Nat.le_refl _
 | s :: t, i, ds => by
  have h1 := leadL_more b t (i + 1) (setL ds (i + 1) (b, s.2))
  rw [setL_len] at h1
  unfold leadL
  omega
theorem tick2_ok {x : Rc} (h : T2Ok x) : T2Ok (tick2 x) := by
 unfold tick2
 split
 ·unfold promR
  have hm : (mergeL x.best x.ds).length ≤ 60 := by rw [mergeL_len]; have := h.best; have := h.ds; omega
  split
  ·rename_i hq
   have hy := addL_len x.yes x.num
   have h1 := h.lead.sm
   exact ⟨⟨h.lead.d0, h.lead.d1, ⟨h1.lS, h1.lD, h1.lH, h1.lW, (show (addL x.yes x.num).length ≤ 1048576 by have := h.yes; omega), (show (mergeL x.best x.ds).length ≤ 1048576 by omega), h1.lA, h1.nH, h1.nA⟩, h.lead.a1, h.lead.a2, h.lead.ba, h.lead.nu⟩, h.ss, h.ds, h.of_, h.num, hm, (show (addL x.yes x.num).length ≤ 6 by have := h.of_.2; omega), h.held, h.heard⟩
  ·have hd : (leadDs x (mergeL x.best x.ds)).length ≤ 60 ∧ x.ds.length ≤ (leadDs x (mergeL x.best x.ds)).length := by
    unfold leadDs
    have h1 := leadL_len x.ball ((mergeL x.best x.ds).drop x.dk.toNat) x.dk.toNat x.ds
    have h2 := leadL_more x.ball ((mergeL x.best x.ds).drop x.dk.toNat) x.dk.toNat x.ds
    rw [List.length_drop] at h1
    have := h.ds
    have := h.lead.d0
    have := h.lead.d1
    exact ⟨by omega, h2⟩
   have h1 := h.lead.sm
   exact ⟨⟨h.lead.d0, (show x.dk ≤ ((leadDs x (mergeL x.best x.ds)).length : Int) by have := h.lead.d1; have := hd.2; omega), ⟨h1.lS, (show (leadDs x (mergeL x.best x.ds)).length ≤ 1048576 by have := hd.1; omega), h1.lH, h1.lW, Nat.zero_le _, Nat.zero_le _, Nat.zero_le _, h1.nH, fun i s hs => by simp [calmR] at hs⟩, Nat.zero_le _, fun a ha => by simp [calmR] at ha, h.lead.ba, h.lead.nu⟩, h.ss, hd.1, h.of_, h.num, Nat.zero_le _, Nat.zero_le _, h.held, h.heard⟩
 ·exact h
/-- own rows of two kinds lie in two blocks -/
theorem RowC.apart {B B' : Nat} {w : World} {col col' : Nat → Nat} {t t' : Nat} {e e' : TypeId} {k k' : Nat} {a a' : Option Addr} {n n' c c' : Nat} {xs xs' : List Value} (h : RowC B w col t e k a n c xs) (h' : RowC B' w col' t' e' k' a' n' c' xs') (hne : e ≠ e') : ∀ x y, a = some x → a' = some y → x.block ≠ y.block := fun x y hx hy eq => by
 rcases h.own.2 with ⟨h0, _⟩ | ⟨g1, cap, cur, hv, _, hh, _⟩
 ·rw [hx] at h0; simp at h0
 rcases h'.own.2 with ⟨h0, _⟩ | ⟨g2, cap2, cur2, hv2, _, hh2, _⟩
 ·rw [hy] at h0; simp at h0
 rw [hx] at hv
 rw [hy] at hv2
 simp only [Value.slice.injEq, Option.some.injEq] at hv hv2
 have h1 : x.block = g1 := by rw [hv.1]
 have h2 : y.block = g2 := by rw [hv2.1]
 have e2 : g2 = g1 := by omega
 rw [e2] at hh2
 have h9 := hh.symm.trans hh2
 simp only [Option.some.injEq, Obj.cells.injEq] at h9
 exact hne h9.2.1
theorem othP_bare {num : Int} {m : MsgH} (hx : m.x.size ≤ maxLen) : ∀ k, ∀ q ∈ othP num m k, ∃ m', q = bare m' ∧ m'.x.size ≤ maxLen
 | 0, q, hq => by simp [othP] at hq
 | k + 1, q, hq => by
  unfold othP at hq
  split at hq
  ·exact othP_bare hx k q hq
  ·rcases List.mem_append.1 hq with hq | hq
   ·exact othP_bare hx k q hq
   ·simp only [List.mem_cons, List.not_mem_nil, or_false] at hq
    exact ⟨_, hq, hx⟩
theorem accP_bare {r : Rc} (hg : GoodSlots r.ds) : ∀ n, ∀ q ∈ accP r n, ∃ m', q = bare m' ∧ m'.x.size ≤ maxLen
 | 0, q, hq => by simp [accP] at hq
 | n + 1, q, hq => by
  unfold accP at hq
  rcases List.mem_append.1 hq with hq | hq
  ·exact accP_bare hg n q hq
  ·refine othP_bare ?_ _ q hq
   show (r.ds.getD (r.dk.toNat + n) (0, ⟨#[]⟩)).2.size ≤ maxLen
   rw [List.getD_eq_getElem?_getD]
   cases h0 : r.ds[r.dk.toNat + n]? with
   | none => exact Nat.zero_le _
   | some s => exact (hg _ s h0).1
theorem leadP_bare {r : Rc} (hg : GoodSlots r.ds) : ∀ q ∈ leadP r, ∃ m', q = bare m' ∧ m'.x.size ≤ maxLen := fun q hq => by
 unfold leadP at hq
 rcases List.mem_append.1 hq with hq | hq
 ·exact othP_bare (show (beatM r).x.size ≤ maxLen from Nat.zero_le _) _ q hq
 ·exact accP_bare hg _ q hq
/-- what a leader sends, beside what was sent -/
theorem OutS.led {B : Nat} {v v' : World} {c c' : Nat → Nat} {a a' : Option Addr} {H K : List Mp} {k k' : Nat} (h : OutS B v c a H k) (row : RowM B v' a' (H ++ K) k') (ca : ∀ x, a' = some x → 8 < c' x.block) (ot : ∀ b, b < v.heap.size → 8 < c b → (∀ y, a = some y → y.block ≠ b) → v'.heap[b]? = v.heap[b]? ∧ 8 < c' b) (hK : ∀ q ∈ K, ∃ m, q = bare m ∧ m.x.size ≤ maxLen) : OutS B v' c' a' (H ++ K) k' := by
 have keep : ∀ q ∈ H, ∀ y, q.2.1 = some y → v'.heap[y.block]? = v.heap[y.block]? ∧ 8 < c' y.block := fun q hq y hy => ot _ ((h.inn.row q hq).lt y hy).2 (h.ci q hq y hy).1 (fun x hx => (h.ci q hq y hy).2 x hx)
 have inr : ∀ q ∈ H, RowC B v' (fun _ => 0) 0 108 2 q.2.1 q.1.2.length q.2.2 (flat q.1.2) := fun q hq => (h.inn.row q hq).same fun y hy => (keep q hq y hy).1
 refine ⟨row, ⟨fun q hq => ?_, ?_⟩, ca, fun q hq y hy => ?_, ?_⟩
 ·rcases List.mem_append.1 hq with hq | hq
  ·exact inr q hq
  ·obtain ⟨m, rfl, _⟩ := hK q hq
   exact rowC_nil0 _ _ _ _ _ _
 ·rw [List.pairwise_append]
  refine ⟨h.inn.apart, ?_, fun q hq q' hq' x x' hx hx' => ?_⟩
  ·refine List.pairwise_of_forall_mem_list fun q hq q' hq' x x' hx hx' => ?_
   obtain ⟨m, rfl, _⟩ := hK q hq
   simp [bare] at hx
  ·obtain ⟨m, rfl, _⟩ := hK q' hq'
   simp [bare] at hx'
 ·rcases List.mem_append.1 hq with hq | hq
  ·exact ⟨(keep q hq y hy).2, fun x hx => RowC.apart row (inr q hq) (by decide) x y hx hy⟩
  ·obtain ⟨m, rfl, _⟩ := hK q hq
   simp [bare] at hy
 ·rw [List.map_append]
  intro i s hs
  rcases Nat.lt_or_ge i (H.map (·.1)).length with hi | hi
  ·rw [List.getElem?_append_left hi] at hs; exact h.gd i s hs
  ·rw [List.getElem?_append_right hi] at hs
   have hm := List.mem_of_getElem? hs
   rw [List.mem_map] at hm
   obtain ⟨q, hq, rfl⟩ := hm
   obtain ⟨m, rfl, hx⟩ := hK q hq
   exact ⟨hx, Nat.zero_le _, fun i s hs => by simp [bare] at hs⟩
theorem leadT_small {x : Rc} (h : T2Ok x) : RcSmall (leadT x) ∧ (leadT x).ds.length ≤ 60 := by
 have h1 := ackN_ok h.lead x.ss.length (by have := h.ss; omega)
 obtain ⟨l, e, h2, h3⟩ := openN_like (ackN x x.ss.length) x.wish
 obtain ⟨l2, d2, e2⟩ := ackN_like x x.ss.length
 have hd : (ackN x x.ss.length).ds.length ≤ 60 := by rw [e2]; exact h.ds
 unfold leadT
 rw [e]
 have hl : l.length ≤ 60 := by omega
 exact ⟨⟨h1.sm.lS, (show l.length ≤ 1048576 by omega), h1.sm.lH, h1.sm.lW, h1.sm.lY, h1.sm.lB, h1.sm.lA, h1.sm.nH, h1.sm.nA⟩, hl⟩
theorem leadP_len {r : Rc} (h : r.of_ ≤ 5) (hd : r.ds.length ≤ 60) : (leadP r).length ≤ 305 := by
 unfold leadP
 rw [List.length_append]
 have h1 := othP_len r.num (beatM r) r.of_.toNat
 have h2 := accP_len r (r.ds.length - r.dk.toNat)
 have h3 : (r.ds.length - r.dk.toNat) * r.of_.toNat ≤ 60 * 5 := Nat.mul_le_mul (by omega) (by omega)
 omega
end Go.Proofs.YtffklmlljekceaaGreat
namespace Go.Proofs.YtffklmlljekceaaGreat
open Go.ChangeShapes Go.WideShapes Go.ChangeAt Go.RowKit
set_option linter.unusedSimpArgs false
set_option linter.unusedVariables false
set_option maxHeartbeats 16000000
set_option maxRecDepth 20000
structure DpS (g tb vb : Nat) (cs ct : Array Value) (w : World) : Prop where
 bg : Blk w g cs 41
 bt : Blk w tb ct 128
 bv : Blk w vb #[.pointer (some ⟨tb, 0, none⟩)] 152
theorem DpS.drew {g tb vb : Nat} {cs ct : Array Value} {w : World} (h : DpS g tb vb cs ct w) : DpS g tb vb cs ct w.drew := ⟨Blk.drew h.bg, Blk.drew h.bt, Blk.drew h.bv⟩
theorem implDrop (B g tb : Nat) (x : Rc) (p : RcP) (X : RcX) (c : Nat → Nat) (a : Option Addr) (H : List Mp) (n : Nat) (v : World) (h : IKS B g tb x p X c a H n v) (D : Nat) (hD : DkC x p D) (hw : x.wish.length ≤ 1048576) :
  Calls Tryz.prog 117 #[.pointer (some ⟨tb, 0, none⟩)] v fun e v' => (∃ u, e = .returned u) ∧ PPost B g tb v c a ({ x with wish := LD x D x.wish }) (H) v' := by
 have S0 := hid h.fresh
 have LT := hid h.lt
 have HX := hid (show DkC x p D ∧ x.wish.length ≤ 1048576 from ⟨hD, hw⟩)
 obtain ⟨V, hV⟩ : ∃ u, u = v.alloc (.cells #[.pointer (some ⟨tb, 0, none⟩)] 152) := ⟨_, rfl⟩
 have EV := hid (show Below v.heap.size v V by rw [hV]; exact ext_alloc (Below.refl _ _) _)
 have KV := hid (show Blk V v.heap.size #[.pointer (some ⟨tb, 0, none⟩)] 152 by rw [hV]; exact Blk.new _ _ _)
 have S1 := hid (S0.out.ext EV.out)
 clear h hD hw
 go_enter Tryz.func117, Tryz.ntmps117
 go_wp2_with fail
 rw [← hV]
 clear hV
 have hK0 : DpS g tb v.heap.size (rcV x p) (tcV g a H.length n) V := ⟨S1.out.k, S1.out.t, KV.out⟩
 refine wp_region_last (S := DpS g tb v.heap.size (rcV x p) (tcV g a H.length n)) 15 (by kernel_rfl) hK0.drew (fun hHeld => ?_)
 simp only [qz, Nat.reduceAdd]
 obtain ⟨Vd, hVd⟩ : ∃ u, u = V.drew := ⟨_, rfl⟩
 have EDD := hid (show Below V.heap.size V Vd by rw [hVd]; exact ext_drew V)
 have S2 := hid (S1.out.ext EDD.out)
 have KV2 := hid (KV.out.ext EDD.out)
 rw [← hVd] at hHeld ⊢
 clear hVd hK0
 refine planL.go [0, 1, 2, 3, 4, 5, 6, 7, 8, 9, 10, 11] ?_
 iterate 12 (apply planL.take (at_lit rfl) (by kernel_rfl) (by rfl) (fun _ _ _ h => h) hHeld; (· intro w9 hSw; have hq := hSw.bg.cell; have ht := hSw.bt.cell; have hv := hSw.bv.cell; clear hSw; go_simp; try with_reducible rfl); try simp only [qq])
 refine planL.fin ?_
 refine rdL 12 (by kernel_rfl) (at_lit rfl) (fun K hK => ?_)
 go_simp
 refine (dropDelete B g tb v.heap.size x p (.slice a H.length n) D p.aW x.wish x.wish.length p.cW Vd HX.out.2 S2.out.has.t.forget S2.out.has.at.hW HX.out.1 ⟨S2.out.k, S2.out.t, KV2.out, S2.out.has.at.hD⟩ (fun y hy => ⟨RowC.ne S2.out.has.t S2.out.k (by decide) y hy, RowC.ne S2.out.has.t S2.out.t (by decide) y hy, RowC.ne S2.out.has.t KV2.out (by decide) y hy, fun z hz => RowC.apart S2.out.has.d S2.out.has.t (by decide) z y hz hy⟩)).mono ?_
 rintro e w2 ⟨rfl, ho, gr⟩
 obtain ⟨gp, k2⟩ := GPost.wish S2.out.bg S2.out.k S2.out.cg S2.out.has gr ho (NewOr.self _ _) (fun i s hs => by
  have hm := List.mem_of_getElem? hs
  obtain ⟨j, hj⟩ := List.getElem?_of_mem (List.mem_filter.1 hm).1
  exact S2.out.has.gd.t j s hj)
 have PP := hid (S2.out.turn gp)
 have K2 := hid k2
 have T2 := hid (show Blk w2 tb (tcV g a H.length n) 128 from (gr.block tb S2.out.t.lt (ownBlock_far (RowC.ne S2.out.has.t S2.out.t (by decide)))).trans S2.out.t)
 have V2 := hid (show Blk w2 v.heap.size #[.pointer (some ⟨tb, 0, none⟩)] 152 from (gr.block _ KV2.out.lt (ownBlock_far (RowC.ne S2.out.has.t KV2.out (by decide)))).trans KV2.out)
 clear gp gr ho k2
 obtain ⟨L, hL⟩ : ∃ L, L = LD x D x.wish := ⟨_, rfl⟩
 rw [← hL] at PP ⊢
 have EL := hid hL
 clear hL
 go_wp2_with fail
 refine hK.out _ _ ⟨K2.out, T2.out, V2.out⟩ (fun hNew => ?_)
 clear hK K hHeld
 have hHeld := hNew
 clear hNew
 try simp only [qq]
 refine rdL 13 (by kernel_rfl) (at_lit rfl) (fun K hK => ?_)
 go_simp
 refine hK.out _ _ hHeld (fun hNew => ?_)
 clear hK K hNew
 try simp only [qq]
 refine planL.go [14] ?_
 iterate 1 (apply planL.take (at_lit rfl) (by kernel_rfl) (by rfl) (fun _ _ _ h => h) hHeld; (· intro w9 hSw; have hq := hSw.bg.cell; have ht := hSw.bt.cell; have hv := hSw.bv.cell; clear hSw; go_simp; try with_reducible rfl); try simp only [qq])
 refine planL.fin ?_
 refine wpLast_end (by kernel_rfl) (at_lit rfl) (by kernel_rfl) (fun K hK => ?_)
 have cK := K2.out.cell
 have fK := K2.out.free
 go_simp
 refine hK.out _ _ ?_
 clear hK K hHeld cK fK
 obtain ⟨Y, hY⟩ : ∃ u, u = w2.setCell ⟨g, 10, none⟩ (.slice p.aW L.length p.cW) := ⟨_, rfl⟩
 rw [← hY] at PP ⊢
 clear hY
 go_wp2_with fail
 first | refine bodyPost_end (results_none rfl _ _ _) rfl ?_ | refine bodyPost_ret (results_none rfl _ _ _) rfl ?_
 rw [← EL.out]
 exact ⟨⟨_, rfl⟩, (PP.out.ext EDD.out S1.out.lt).from EV.out LT.out⟩
end Go.Proofs.YtffklmlljekceaaGreat
namespace Go.Proofs.YtffklmlljekceaaGreat
open Go Go.ChangeShapes Go.WideShapes Go.ChangeAt Go.RowKit
set_option linter.unusedVariables false
set_option maxHeartbeats 16000000
set_option maxRecDepth 20000
section
variable {P : Program} {ops : Array Oper} {Q : Exit → Act → World → Prop} {md : Region.Mode} {S : World → Prop} {z : Nat}
/-- number u waits for number i, or for one that does, .. -/
def reachB (md : Region.Mode) (ops : Array Oper) : Nat → Nat → Nat → Bool
 | 0, _, _ => false
 | n + 1, u, i => match ops[u]? with
  | some o => o.after.any fun e => Region.binds md e && (e.on == i || reachB md ops n e.on i)
  | none => false
/-- what is done has done what it waits for -/
def DoneC (md : Region.Mode) (ops : Array Oper) (L : Array Bool) : Prop := ∀ j oj, ops[j]? = some oj → L.getD j false = true → ∀ e ∈ oj.after, Region.binds md e = true → L.getD e.on false = true
def closedB (md : Region.Mode) (ops : Array Oper) (L : Array Bool) : Bool := (List.range ops.size).all fun j => !(L.getD j false) || (match ops[j]? with | some o => o.after.all (fun e => !(Region.binds md e) || L.getD e.on false) | none => true)
theorem closed_of {L : Array Bool} (h : closedB md ops L = true) : DoneC md ops L := fun j oj hj hd e he hb => by
 have hlt : j < ops.size := (Array.getElem?_eq_some_iff.1 hj).1
 have h1 := List.all_eq_true.1 h j (List.mem_range.2 hlt)
 rw [hd, hj] at h1
 simp only [Bool.not_true, Bool.false_or] at h1
 have h2 := Array.all_eq_true_iff_forall_mem.1 h1 e he
 rw [hb] at h2
 simpa using h2
theorem reach_done {L : Array Bool} (hC : DoneC md ops L) (i : Nat) : ∀ (n u : Nat), reachB md ops n u i = true → (∃ o, ops[u]? = some o ∧ ∀ e ∈ o.after, Region.binds md e = true → L.getD e.on false = true) → L.getD i false = true
 | 0, u, h, _ => by simp [reachB] at h
 | n + 1, u, h, ⟨o, ho, hall⟩ => by
  unfold reachB at h
  rw [ho] at h
  simp only [Array.any_eq_true, Bool.and_eq_true, Bool.or_eq_true, beq_iff_eq] at h
  obtain ⟨k, hk, hb, h1⟩ := h
  have hd := hall _ (Array.getElem_mem hk) hb
  rcases h1 with h1 | h1
  ·rw [h1] at hd; exact hd
  ·cases n with
   | zero => simp [reachB] at h1
   | succ n =>
    have h2 : ∃ o2, ops[(o.after[k]).on]? = some o2 := by
     unfold reachB at h1
     cases hx : ops[(o.after[k]).on]? with
     | none => rw [hx] at h1; simp at h1
     | some o2 => exact ⟨o2, rfl⟩
    obtain ⟨o2, ho2⟩ := h2
    exact reach_done hC i (n + 1) _ h1 ⟨o2, ho2, fun e he hb => hC _ o2 ho2 hd e he hb⟩
theorem DoneC.step {L : Array Bool} {j : Nat} (h : DoneC md ops L) (hj : j ∈ Region.ready md ops L) : DoneC md ops (L.setIfInBounds j true) := fun u ou hu hd e he hb => by
 obtain ⟨_, oj, hoj, hall⟩ := mem_ready.1 hj
 by_cases huj : j = u
 ·subst huj
  rw [hoj] at hu
  simp only [Option.some.injEq] at hu
  subst hu
  exact getD_set_true (hall e he hb)
 ·rw [getD_set_ne false huj] at hd
  exact getD_set_true (h u ou hu hd e he hb)
theorem wpLast.first2 {i : Nat} {o : Oper} {v : Value} (hi : ops[i]? = some o) (hsel : Region.noSelect ops = true) (hQ : ∀ c a w, Q (.panic c) (a.put o.dst v) w → Q (.panic c) a w) {n : Nat} (hz : reachB md ops n z i = true) (f : Nat) :
  ∀ (L : Array Bool) (a : Act) (w : World), DoneC md ops L → (∀ j oj, ops[j]? = some oj → j ≠ i → L.getD j true = false → (∀ e ∈ oj.after, Region.binds md e = true → e.on ≠ i) → o.apart ops oj = true) →
   i ∈ Region.ready md ops L → YieldsIf P ops S o v a → S w → wpLast P md ops Q S z f (L.setIfInBounds i true) (a.put o.dst v) w → wpLast P md ops Q S z (f + 1) L a w := by
 induction f with
 | zero =>
  intro L a w _ _ hr hy hS H
  refine ⟨fun h => absurd (h ▸ hr) (by simp), fun j hj => ?_⟩
  rcases Nat.decEq j i with hne | rfl
  ·have h0 := ready_mono hj hne
   rw [H.1] at h0
   simp at h0
  ·exact hy.wpOp hi hS ⟨fun _ => hS, H⟩
 | succ f ih =>
  intro L a w hC hf hr hy hS H
  refine ⟨fun h => absurd (h ▸ hr) (by simp), fun j hj => ?_⟩
  rcases Nat.decEq j i with hne | rfl
  ·obtain ⟨un, oj, hoj, hall⟩ := mem_ready.1 hj
   have un0 := (mem_ready.1 hr).1
   have unf : ¬ L.getD i false = true := fun h1 => by
    rcases Nat.lt_or_ge i L.size with lt | ge
    ·simp [lt] at un0 h1
     rw [un0] at h1
     cases h1
    ·simp [Array.getElem?_eq_none ge] at h1
   have hno : ∀ e ∈ oj.after, Region.binds md e = true → e.on ≠ i := by
    intro e he hb q
    have h1 := hall e he hb
    rw [q] at h1
    exact unf h1
   have hjz : j ≠ z := by
    rintro rfl
    exact unf (reach_done hC i n _ hz ⟨oj, hoj, hall⟩)
   have h2 := wpOp_putIf hoj (hf j oj hoj hne un hno) (fun cs b => Region.noSelect_spec hsel i o cs b hi) (fun cs b => Region.noSelect_spec hsel j oj cs b hoj) hQ hy (H.2 j (ready_mono hj hne))
   refine wpOp_mono (fun a' w' k => ⟨k.2.1, ih _ a' w' (hC.step hj) (fun x ox hx hxi hun hn => hf x ox hx hxi ?_ hn) (ready_mono hr (Ne.symm hne)) k.1 (k.2.1 hjz) ?_⟩) h2
   ·rcases Nat.decEq j x with ne | rfl
    ·rw [getD_set_ne true ne] at hun; exact hun
    ·exact un
   ·rw [Array.setIfInBounds_comm _ _ hne]
    exact k.2.2
  ·exact hy.wpOp hi hS ⟨fun _ => hS, H⟩
/-- number i is taken first -/
theorem wpLast_take2 {i : Nat} {o : Oper} {v : Value} {f : Nat} {L : Array Bool} {a : Act} {w : World} (hi : ops[i]? = some o) (hz : (reachB md ops 12 z i && closedB md ops L) = true) (hs : Region.noSelect ops = true) (hf : Region.free md ops L i = true) (hr : (Region.ready md ops L).contains i = true)
  (hQ : ∀ c a w, Q (.panic c) (a.put o.dst v) w → Q (.panic c) a w) (hy : YieldsIf P ops S o v a) (hS : S w) (h : wpLast P md ops Q S z f (L.setIfInBounds i true) (a.put o.dst v) w) : wpLast P md ops Q S z (f + 1) L a w := by
 simp only [Bool.and_eq_true] at hz
 exact wpLast.first2 hi hs hQ hz.1 f L a w (closed_of hz.2) (Region.free_spec hi hf) (by simpa using hr) hy hS h
def planR (P : Program) (md : Region.Mode) (ops : Array Oper) (Q : Exit → Act → World → Prop) (S : World → Prop) (z : Nat) (l : List Nat) (f : Nat) (L : Array Bool) (a : Act) (w : World) : Prop := wpLast P md ops Q S z f L a w
variable {f i : Nat} {L : Array Bool} {a : Act} {w : World} {o : Oper} {v : Value} {l : List Nat}
theorem planR.go (l : List Nat) (h : planR P md ops Q S z l f L a w) : wpLast P md ops Q S z f L a w := h
theorem planR.fin (h : wpLast P md ops Q S z f L a w) : planR P md ops Q S z [] f L a w := h
theorem planR.take (hi : ops[i]? = some o) (hk : (reachB md ops 12 z i && closedB md ops L && (Region.noSelect ops && (Region.free md ops L i && (Region.ready md ops L).contains i))) = true) (hw : Region.wanted o (yielded ops a.tmps) = true)
  (hQ : ∀ c a w, Q (.panic c) (a.put o.dst v) w → Q (.panic c) a w) (hS : S w) (hy : ∀ w, S w → (execOp a.eval o).run P w = .ok (.value v) w) (h : planR P md ops Q S z l f (L.setIfInBounds i true) (a.put o.dst v) w) : planR P md ops Q S z (i :: l) (f + 1) L a w := by
 obtain ⟨h1, h2⟩ := Bool.and_eq_true_iff.1 hk
 obtain ⟨h3, h4⟩ := Bool.and_eq_true_iff.1 h2
 obtain ⟨h5, h6⟩ := Bool.and_eq_true_iff.1 h4
 exact wpLast_take2 hi h1 h3 h5 h6 hQ (.inl ⟨hw, hy⟩) hS h
end
end Go.Proofs.YtffklmlljekceaaGreat
namespace Go.Proofs.YtffklmlljekceaaGreat
open Go.ChangeShapes Go.WideShapes Go.ChangeAt Go.RowKit
set_option linter.unusedSimpArgs false
set_option linter.unusedVariables false
set_option maxHeartbeats 16000000
set_option maxRecDepth 20000
theorem implSave (B g tb : Nat) (x : Rc) (p : RcP) (X : RcX) (c : Nat → Nat) (a : Option Addr) (H : List Mp) (n : Nat) (v : World) (h : IKS B g tb x p X c a H n v) (hl : x.ds.length ≤ 1048576) :
  Calls Tryz.prog 115 #[.pointer (some ⟨tb, 0, none⟩)] v fun e v' => (∃ u, e = .returned u) ∧ PPost B g tb v c a ({ x with sp := x.dp, sk := x.dk, ss := x.ds }) (H) v' := by
 have S0 := hid h
 have LD := hid hl
 clear h hl
 go_enter Tryz.func115, Tryz.ntmps115
 go_wp2_with fail
 have hK0 : TgS g tb (rcV x p) (tcV g a H.length n) v := ⟨S0.out.k, S0.out.t⟩
 refine wp_region_last (S := TgS g tb (rcV x p) (tcV g a H.length n)) 13 (by kernel_rfl) hK0.drew (fun hHeld => ?_)
 simp only [qz, Nat.reduceAdd]
 obtain ⟨Vd, hVd⟩ : ∃ u, u = v.drew := ⟨_, rfl⟩
 have ED := hid (show Below v.heap.size v Vd by rw [hVd]; exact ext_drew v)
 have S1 := hid (S0.out.ext ED.out)
 rw [← hVd] at hHeld ⊢
 clear hVd hK0
 refine planL.go [0, 1, 2, 3, 4, 5, 6, 7, 8, 9, 10] ?_
 iterate 11 (apply planL.take (at_lit rfl) (by kernel_rfl) (by rfl) (fun _ _ _ h => h) hHeld; (· intro w9 hSw; have hq := hSw.bg.cell; have ht := hSw.bt.cell; clear hSw; go_simp; try with_reducible rfl); try simp only [qq])
 refine planL.fin ?_
 refine rdL 11 (by kernel_rfl) (at_lit rfl) (fun K hK => ?_)
 go_simp
 refine hK.out _ _ hHeld (fun hNew => ?_)
 clear hK K hNew
 try simp only [qq]
 refine planL.go [12] ?_
 iterate 1 (apply planL.take (at_lit rfl) (by kernel_rfl) (by rfl) (fun _ _ _ h => h) hHeld; (· intro w9 hSw; have hq := hSw.bg.cell; have ht := hSw.bt.cell; clear hSw; go_simp; try with_reducible rfl); try simp only [qq])
 refine planL.fin ?_
 refine wpLast_end (by kernel_rfl) (at_lit rfl) (by kernel_rfl) (fun K hK => ?_)
 have cK := S1.out.k.cell
 have fK := S1.out.k.free
 go_simp
 refine hK.out _ _ ?_
 clear hK K hHeld cK fK
 obtain ⟨Y0, hY0⟩ : ∃ u, u = ((Vd.setCell ⟨g, 3, none⟩ (.int .i64 x.dp)).setCell ⟨g, 4, none⟩ (.int .i64 x.dk)).setCell ⟨g, 5, none⟩ (.slice p.aD x.ds.length p.cD) := ⟨_, rfl⟩
 have ot0 : ∀ b, b ≠ g → Y0.heap[b]? = Vd.heap[b]? := fun b hb => by rw [hY0]; exact (heap_setCell_other _ ⟨g, 5, none⟩ b _ hb).trans ((heap_setCell_other _ ⟨g, 4, none⟩ b _ hb).trans (heap_setCell_other _ ⟨g, 3, none⟩ b _ hb))
 have K0 := hid (show Blk Y0 g (rcV { x with sp := x.dp, sk := x.dk, ss := x.ds } { p with aS := p.aD, cS := p.cD }) 41 by rw [hY0]; exact blk_eq (((S1.out.k.set (o := 3) (.int .i64 x.dp)).set (o := 4) (.int .i64 x.dk)).set (o := 5) (.slice p.aD x.ds.length p.cD)) (by simp))
 have T0 := hid (show Blk Y0 tb (tcV g a H.length n) 128 from (ot0 tb S1.out.ne).trans S1.out.t)
 have HS0 := hid (show RcHas B Y0 x p X c from S1.out.has.same fun b _ _ h8 => ot0 b (fun e => by rw [e] at h8; have := S1.out.cg; omega))
 have B0 := hid (show Below B Vd Y0 by rw [hY0]; exact below_set (below_set (below_set (Below.refl _ _) S1.out.bg _) S1.out.bg _) S1.out.bg _)
 have O0 := hid ot0
 rw [← hY0]
 clear hY0 ot0
 go_wp2_with fail
 have hK0 : TgS g tb (rcV { x with sp := x.dp, sk := x.dk, ss := x.ds } { p with aS := p.aD, cS := p.cD }) (tcV g a H.length n) Y0 := ⟨K0.out, T0.out⟩
 refine wp_region_last (S := TgS g tb (rcV { x with sp := x.dp, sk := x.dk, ss := x.ds } { p with aS := p.aD, cS := p.cD }) (tcV g a H.length n)) 16 (by kernel_rfl) hK0.drew (fun hHeld => ?_)
 simp only [qz, Nat.reduceAdd]
 obtain ⟨Yd, hYd⟩ : ∃ u, u = Y0.drew := ⟨_, rfl⟩
 have EY := hid (show Below Y0.heap.size Y0 Yd by rw [hYd]; exact ext_drew Y0)
 have HSd := hid (HS0.out.ext EY.out)
 rw [← hYd] at hHeld ⊢
 clear hYd hK0
 refine planL.go [0, 1, 2, 3, 4, 5, 6, 7, 8, 9, 10, 11] ?_
 iterate 12 (apply planL.take (at_lit rfl) (by kernel_rfl) (by rfl) (fun _ _ _ h => h) hHeld; (· intro w9 hSw; have hq := hSw.bg.cell; have ht := hSw.bt.cell; clear hSw; go_simp; try with_reducible rfl); try simp only [qq])
 refine planL.fin ?_
 refine rdL 12 (by kernel_rfl) (at_lit rfl) (fun K hK => ?_)
 go_simp
 refine (copyS p.aD x.ds.length p.cD (flat x.ds) Yd HSd.out.d.read LD.out (flat_one _)).mono ?_
 rintro e w2 ⟨a2, c2, rfl, rz, hb2⟩
 have RZ := hid rz
 have B2 := hid hb2
 have E2 := hid (ext_trans EY.out hb2)
 clear rz hb2
 go_wp2_with fail
 refine hK.out _ _ ⟨K0.out.ext E2.out, T0.out.ext E2.out⟩ (fun hNew => ?_)
 clear hK K hHeld
 have hHeld := hNew
 clear hNew
 try simp only [qq]
 refine rdL 13 (by kernel_rfl) (at_lit rfl) (fun K hK => ?_)
 go_simp
 refine hK.out _ _ hHeld (fun hNew => ?_)
 clear hK K hNew
 try simp only [qq]
 refine rdL 14 (by kernel_rfl) (at_lit rfl) (fun K hK => ?_)
 go_simp
 refine hK.out _ _ hHeld (fun hNew => ?_)
 clear hK K hNew
 try simp only [qq]
 refine planL.go [15] ?_
 iterate 1 (apply planL.take (at_lit rfl) (by kernel_rfl) (by rfl) (fun _ _ _ h => h) hHeld; (· intro w9 hSw; have hq := hSw.bg.cell; have ht := hSw.bt.cell; clear hSw; go_simp; try with_reducible rfl); try simp only [qq])
 refine planL.fin ?_
 refine wpLast_end (by kernel_rfl) (at_lit rfl) (by kernel_rfl) (fun K hK => ?_)
 have cK := hHeld.bg.cell
 have fK := hHeld.bg.free
 go_simp
 refine hK.out _ _ ?_
 clear hK K hHeld cK fK
 have GP := hid (show GPost B g Vd c { x with sp := x.dp, sk := x.dk, ss := x.ds } (w2.setCell ⟨g, 5, none⟩ (.slice a2 x.ds.length c2)) by
  have lo := RZ.out.lo
  have s1 := B0.out.size
  have s2 := E2.out.size
  have s3 := EY.out.size
  have kl := S1.out.k.lt
  have far : ∀ b, b < Yd.heap.size → colN a2 0 c b = c b := fun b hlt => colN_else (fun y hy e => by have := (lo y hy).1; omega)
  have hg8 : 8 < colN a2 0 c g := by rw [far g (by omega)]; exact S1.out.cg
  refine ⟨{ p with aS := a2, cS := c2 }, X, colN a2 0 c, ?_, ?_, hg8, below_set ((B0.out.trans (E2.out.mono (Nat.le_trans S1.out.lt s1)))) S1.out.bg _, fun b hlt hne h8 => ⟨(heap_setCell_other _ ⟨g, 5, none⟩ b _ hne).trans ((E2.out.block b (by omega)).trans (O0.out b hne)), by rw [far b (by omega)]; exact h8⟩⟩
  ·exact blk_eq ((K0.out.ext E2.out).set (o := 5) (.slice a2 x.ds.length c2)) (by simp)
  refine RcHas.setCell (q := ⟨g, 5, none⟩) ?_ hg8 _
  exact ((((HSd.out.recol far).ext B2.out).set_s (a' := a2) (c' := c2) (l := x.ds) (RowC.mk (own_low RZ.out.own (by have := S1.out.lt; omega)) (fun y hy => colN_at hy)) HSd.out.gd.d).like rfl rfl rfl rfl rfl rfl rfl))
 obtain ⟨Y, hY⟩ : ∃ u, u = w2.setCell ⟨g, 5, none⟩ (.slice a2 x.ds.length c2) := ⟨_, rfl⟩
 rw [← hY] at GP ⊢
 clear hY
 go_wp2_with fail
 first | refine bodyPost_end (results_none rfl _ _ _) rfl ?_ | refine bodyPost_ret (results_none rfl _ _ _) rfl ?_
 exact ⟨⟨_, rfl⟩, (S1.out.turn GP.out).ext ED.out S0.out.lt⟩
theorem implPromItself (B g tb : Nat) (x : Rc) (p : RcP) (X : RcX) (c : Nat → Nat) (a : Option Addr) (H : List Mp) (n : Nat) (v : World) (h : IKS B g tb x p X c a H n v) (ok : T2Ok x) (hy : AscI x.yes) :
  Calls Tryz.prog 119 #[.pointer (some ⟨tb, 0, none⟩)] v fun e v' => (∃ u, e = .returned u) ∧ PPost B g tb v c a (tick2 x) (H) v' := by
 have S0 := hid h
 have OK := hid ok
 have AY := hid hy
 have cT := h.t.cell
 have cK := h.k.cell
 clear h ok hy
 cases hq : x.tr
 ·have FIN := hid (show tick2 x = x by unfold tick2; rw [if_neg (fun q => by rw [hq] at q; exact absurd q.1 (by simp))])
  go_enter Tryz.func119, Tryz.ntmps119
  go_wp2_with fail
  go_quiet (fail)
  go_wp2_with fail
  first | refine bodyPost_end (results_none rfl _ _ _) rfl ?_ | refine bodyPost_ret (results_none rfl _ _ _) rfl ?_
  rw [FIN.out]
  exact ⟨⟨_, rfl⟩, S0.out.stay (ext_drewN _ nq)⟩
 by_cases hb : x.sp = x.ball
 ·have u1 : (x.sp == x.ball) = true := by rw [hb]; exact beq_self_eq_true _
  have FIN := hid (show tick2 x = promR x x.num x.ds by unfold tick2; rw [if_pos ⟨hq, hb⟩])
  clear hb
  go_enter Tryz.func119, Tryz.ntmps119
  go_wp2_with fail
  go_quiet (fail)
  obtain ⟨V1, hV1⟩ : ∃ u, u = v.drewN nq := ⟨_, rfl⟩
  have E1 := hid (show Below v.heap.size v V1 by rw [hV1]; exact ext_drewN _ _)
  have S1 := hid (S0.out.ext E1.out)
  rw [← hV1]
  clear hV1 cT cK nq u1 hq
  go_wp2_with fail
  have hK0 : TgS g tb (rcV x p) (tcV g a H.length n) V1 := ⟨S1.out.k, S1.out.t⟩
  refine wp_region_last (S := TgS g tb (rcV x p) (tcV g a H.length n)) 19 (by kernel_rfl) hK0.drew (fun hHeld => ?_)
  simp only [qz, Nat.reduceAdd]
  obtain ⟨Vd, hVd⟩ : ∃ u, u = V1.drew := ⟨_, rfl⟩
  have ED := hid (show Below V1.heap.size V1 Vd by rw [hVd]; exact ext_drew V1)
  have S2 := hid (S1.out.ext ED.out)
  rw [← hVd] at hHeld ⊢
  clear hVd hK0
  refine planR.go [0, 1, 2, 3, 4, 5, 6, 7, 8, 9, 10, 11, 12, 13, 14, 15, 16, 17, 18] ?_
  iterate 19 (apply planR.take (at_lit rfl) (by kernel_rfl) (by rfl) (fun _ _ _ h => h) hHeld; (· intro w9 hSw; have hq := hSw.bg.cell; have ht := hSw.bt.cell; clear hSw; go_simp; try with_reducible rfl); try simp only [qq])
  refine planR.fin ?_
  refine wpLast_end (by kernel_rfl) (at_lit rfl) (by kernel_rfl) (fun K hK => ?_)
  go_simp
  refine (implPromise B g x p X c x.num p.aD x.ds p.cD Vd S2.out.bg S2.out.k S2.out.cg OK.out.lead.d0 OK.out.lead.d1 OK.out.lead.sm OK.out.lead.ba OK.out.lead.nu (by have := OK.out.yes; omega) AY.out OK.out.lead.sm.lD (rowC_cap S2.out.has.d) S2.out.has.at.hD (fun y hy => ⟨RowC.ne S2.out.has.d S2.out.k (by decide) y hy, fun z hz => RowC.apart S2.out.has.y S2.out.has.d (by decide) z y hz hy⟩) S2.out.has).mono ?_
  rintro e w2 ⟨⟨u, rfl⟩, gp⟩
  have PP := hid (S2.out.turn gp)
  clear gp
  obtain ⟨x2, hx2⟩ : ∃ y, y = promR x x.num x.ds := ⟨_, rfl⟩
  rw [← hx2] at PP FIN
  clear hx2
  go_wp2_with fail
  refine hK.out _ _ ?_
  clear hK K hHeld
  go_wp2_with fail
  first | refine bodyPost_end (results_none rfl _ _ _) rfl ?_ | refine bodyPost_ret (results_none rfl _ _ _) rfl ?_
  rw [FIN.out]
  exact ⟨⟨_, rfl⟩, (PP.out.ext ED.out S1.out.lt).ext E1.out S0.out.lt⟩
 have u1 : (x.sp == x.ball) = false := beq_false_of_ne hb
 have FIN := hid (show tick2 x = x by unfold tick2; rw [if_neg (fun q => hb q.2)])
 clear hb
 go_enter Tryz.func119, Tryz.ntmps119
 go_wp2_with fail
 go_quiet (fail)
 go_wp2_with fail
 first | refine bodyPost_end (results_none rfl _ _ _) rfl ?_ | refine bodyPost_ret (results_none rfl _ _ _) rfl ?_
 rw [FIN.out]
 exact ⟨⟨_, rfl⟩, S0.out.stay (ext_drewN _ nq)⟩
end Go.Proofs.YtffklmlljekceaaGreat
