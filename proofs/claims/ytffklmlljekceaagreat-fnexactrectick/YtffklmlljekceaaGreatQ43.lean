import Derived.Test.YtffklmlljekceaaGreatQ42
namespace Go.Proofs.YtffklmlljekceaaGreat
open Go.ChangeShapes Go.WideShapes Go.ChangeAt Go.RowKit
set_option linter.unusedSimpArgs false
set_option linter.unusedVariables false
set_option maxHeartbeats 16000000
set_option maxRecDepth 20000
abbrev FV5 : Array Value := #[.func (.func 115) #[] #[], .func (.func 116) #[] #[], .func (.func 117) #[] #[], .func (.func 118) #[] #[], .func (.func 119) #[] #[]]
theorem implRun5 (tb fb : Nat) (P : Nat → World → Prop) (v : World) (hb : ∀ k w, P k w → Blk w fb FV5 153) (h0 : P 0 v) (c0 : ∀ w, P 0 w → Calls Tryz.prog 115 #[.pointer (some ⟨tb, 0, none⟩)] w fun e w' => (∃ u, e = .returned u) ∧ P 1 w') (c1 : ∀ w, P 1 w → Calls Tryz.prog 116 #[.pointer (some ⟨tb, 0, none⟩)] w fun e w' => (∃ u, e = .returned u) ∧ P 2 w') (c2 : ∀ w, P 2 w → Calls Tryz.prog 117 #[.pointer (some ⟨tb, 0, none⟩)] w fun e w' => (∃ u, e = .returned u) ∧ P 3 w') (c3 : ∀ w, P 3 w → Calls Tryz.prog 118 #[.pointer (some ⟨tb, 0, none⟩)] w fun e w' => (∃ u, e = .returned u) ∧ P 4 w') (c4 : ∀ w, P 4 w → Calls Tryz.prog 119 #[.pointer (some ⟨tb, 0, none⟩)] w fun e w' => (∃ u, e = .returned u) ∧ P 5 w') :
  Calls Tryz.prog 114 #[.pointer (some ⟨tb, 0, none⟩), .slice (some ⟨fb, 0, none⟩) 5 5] v fun e w' => (∃ u, e = .returned u) ∧ P 5 w' := by
 have HB := hid hb
 have H0 := hid h0
 have C0 := hid c0
 have C1 := hid c1
 have C2 := hid c2
 have C3 := hid c3
 have C4 := hid c4
 clear hb h0 c0 c1 c2 c3 c4
 go_enter Tryz.func114, Tryz.ntmps114
 go_wp2_with fail
 go_loopw [5, 8] (fun _ i wr => ∃ (k : Nat), k ≤ 5 ∧ i = .int .i64 k ∧ P k wr) (fun _ i _ => 5 - (intOf i).toNat)
 case atStart => exact ⟨0, Nat.zero_le _, rfl, H0.out⟩
 obtain ⟨k, hk, rfl, hP⟩ := hrel
 obtain rfl | rfl | rfl | rfl | rfl | rfl : k = 0 ∨ k = 1 ∨ k = 2 ∨ k = 3 ∨ k = 4 ∨ k = 5 := by omega
 ·obtain ⟨V, hV⟩ : ∃ V, V = wr := ⟨_, rfl⟩
  have cF := (HB.out _ _ hP).cell 0
  have PK := hid (show P 0 wr from hP)
  clear hP hV
  go_wp2_with fail
  refine (C0.out wr PK.out).mono ?_
  rintro e z ⟨⟨u, rfl⟩, pz⟩
  have PZ := hid pz
  clear pz cF
  go_wp2_with fail
  go_roundw
  case rel => exact ⟨1, by omega, rfl, PZ.out⟩
  case measure => simp [intOf]
 ·obtain ⟨V, hV⟩ : ∃ V, V = wr := ⟨_, rfl⟩
  have cF := (HB.out _ _ hP).cell 1
  have PK := hid (show P 1 wr from hP)
  clear hP hV
  go_wp2_with fail
  refine (C1.out wr PK.out).mono ?_
  rintro e z ⟨⟨u, rfl⟩, pz⟩
  have PZ := hid pz
  clear pz cF
  go_wp2_with fail
  go_roundw
  case rel => exact ⟨2, by omega, rfl, PZ.out⟩
  case measure => simp [intOf]
 ·obtain ⟨V, hV⟩ : ∃ V, V = wr := ⟨_, rfl⟩
  have cF := (HB.out _ _ hP).cell 2
  have PK := hid (show P 2 wr from hP)
  clear hP hV
  go_wp2_with fail
  refine (C2.out wr PK.out).mono ?_
  rintro e z ⟨⟨u, rfl⟩, pz⟩
  have PZ := hid pz
  clear pz cF
  go_wp2_with fail
  go_roundw
  case rel => exact ⟨3, by omega, rfl, PZ.out⟩
  case measure => simp [intOf]
 ·obtain ⟨V, hV⟩ : ∃ V, V = wr := ⟨_, rfl⟩
  have cF := (HB.out _ _ hP).cell 3
  have PK := hid (show P 3 wr from hP)
  clear hP hV
  go_wp2_with fail
  refine (C3.out wr PK.out).mono ?_
  rintro e z ⟨⟨u, rfl⟩, pz⟩
  have PZ := hid pz
  clear pz cF
  go_wp2_with fail
  go_roundw
  case rel => exact ⟨4, by omega, rfl, PZ.out⟩
  case measure => simp [intOf]
 ·obtain ⟨V, hV⟩ : ∃ V, V = wr := ⟨_, rfl⟩
  have cF := (HB.out _ _ hP).cell 4
  have PK := hid (show P 4 wr from hP)
  clear hP hV
  go_wp2_with fail
  refine (C4.out wr PK.out).mono ?_
  rintro e z ⟨⟨u, rfl⟩, pz⟩
  have PZ := hid pz
  clear pz cF
  go_wp2_with fail
  go_roundw
  case rel => exact ⟨5, by omega, rfl, PZ.out⟩
  case measure => simp [intOf]
 have PK := hid (show P 5 wr from hP)
 clear hP
 go_wp2_with fail
 first | refine bodyPost_end (results_none rfl _ _ _) rfl ?_ | refine bodyPost_ret (results_none rfl _ _ _) rfl ?_
 exact ⟨⟨_, rfl⟩, PK.out⟩
abbrev FV4 : Array Value := #[.func (.func 120) #[] #[], .func (.func 121) #[] #[], .func (.func 122) #[] #[], .func (.func 123) #[] #[]]
theorem implRun4 (tb fb : Nat) (P : Nat → World → Prop) (v : World) (hb : ∀ k w, P k w → Blk w fb FV4 153) (h0 : P 0 v) (c0 : ∀ w, P 0 w → Calls Tryz.prog 120 #[.pointer (some ⟨tb, 0, none⟩)] w fun e w' => (∃ u, e = .returned u) ∧ P 1 w') (c1 : ∀ w, P 1 w → Calls Tryz.prog 121 #[.pointer (some ⟨tb, 0, none⟩)] w fun e w' => (∃ u, e = .returned u) ∧ P 2 w') (c2 : ∀ w, P 2 w → Calls Tryz.prog 122 #[.pointer (some ⟨tb, 0, none⟩)] w fun e w' => (∃ u, e = .returned u) ∧ P 3 w') (c3 : ∀ w, P 3 w → Calls Tryz.prog 123 #[.pointer (some ⟨tb, 0, none⟩)] w fun e w' => (∃ u, e = .returned u) ∧ P 4 w') :
  Calls Tryz.prog 114 #[.pointer (some ⟨tb, 0, none⟩), .slice (some ⟨fb, 0, none⟩) 4 4] v fun e w' => (∃ u, e = .returned u) ∧ P 4 w' := by
 have HB := hid hb
 have H0 := hid h0
 have C0 := hid c0
 have C1 := hid c1
 have C2 := hid c2
 have C3 := hid c3
 clear hb h0 c0 c1 c2 c3
 go_enter Tryz.func114, Tryz.ntmps114
 go_wp2_with fail
 go_loopw [5, 8] (fun _ i wr => ∃ (k : Nat), k ≤ 4 ∧ i = .int .i64 k ∧ P k wr) (fun _ i _ => 4 - (intOf i).toNat)
 case atStart => exact ⟨0, Nat.zero_le _, rfl, H0.out⟩
 obtain ⟨k, hk, rfl, hP⟩ := hrel
 obtain rfl | rfl | rfl | rfl | rfl : k = 0 ∨ k = 1 ∨ k = 2 ∨ k = 3 ∨ k = 4 := by omega
 ·obtain ⟨V, hV⟩ : ∃ V, V = wr := ⟨_, rfl⟩
  have cF := (HB.out _ _ hP).cell 0
  have PK := hid (show P 0 wr from hP)
  clear hP hV
  go_wp2_with fail
  refine (C0.out wr PK.out).mono ?_
  rintro e z ⟨⟨u, rfl⟩, pz⟩
  have PZ := hid pz
  clear pz cF
  go_wp2_with fail
  go_roundw
  case rel => exact ⟨1, by omega, rfl, PZ.out⟩
  case measure => simp [intOf]
 ·obtain ⟨V, hV⟩ : ∃ V, V = wr := ⟨_, rfl⟩
  have cF := (HB.out _ _ hP).cell 1
  have PK := hid (show P 1 wr from hP)
  clear hP hV
  go_wp2_with fail
  refine (C1.out wr PK.out).mono ?_
  rintro e z ⟨⟨u, rfl⟩, pz⟩
  have PZ := hid pz
  clear pz cF
  go_wp2_with fail
  go_roundw
  case rel => exact ⟨2, by omega, rfl, PZ.out⟩
  case measure => simp [intOf]
 ·obtain ⟨V, hV⟩ : ∃ V, V = wr := ⟨_, rfl⟩
  have cF := (HB.out _ _ hP).cell 2
  have PK := hid (show P 2 wr from hP)
  clear hP hV
  go_wp2_with fail
  refine (C2.out wr PK.out).mono ?_
  rintro e z ⟨⟨u, rfl⟩, pz⟩
  have PZ := hid pz
  clear pz cF
  go_wp2_with fail
  go_roundw
  case rel => exact ⟨3, by omega, rfl, PZ.out⟩
  case measure => simp [intOf]
 ·obtain ⟨V, hV⟩ : ∃ V, V = wr := ⟨_, rfl⟩
  have cF := (HB.out _ _ hP).cell 3
  have PK := hid (show P 3 wr from hP)
  clear hP hV
  go_wp2_with fail
  refine (C3.out wr PK.out).mono ?_
  rintro e z ⟨⟨u, rfl⟩, pz⟩
  have PZ := hid pz
  clear pz cF
  go_wp2_with fail
  go_roundw
  case rel => exact ⟨4, by omega, rfl, PZ.out⟩
  case measure => simp [intOf]
 have PK := hid (show P 4 wr from hP)
 clear hP
 go_wp2_with fail
 first | refine bodyPost_end (results_none rfl _ _ _) rfl ?_ | refine bodyPost_ret (results_none rfl _ _ _) rfl ?_
 exact ⟨⟨_, rfl⟩, PK.out⟩
abbrev FV1 : Array Value := #[.func (.func 124) #[] #[]]
theorem implRun1 (tb fb : Nat) (P : Nat → World → Prop) (v : World) (hb : ∀ k w, P k w → Blk w fb FV1 153) (h0 : P 0 v) (c0 : ∀ w, P 0 w → Calls Tryz.prog 124 #[.pointer (some ⟨tb, 0, none⟩)] w fun e w' => (∃ u, e = .returned u) ∧ P 1 w') :
  Calls Tryz.prog 114 #[.pointer (some ⟨tb, 0, none⟩), .slice (some ⟨fb, 0, none⟩) 1 1] v fun e w' => (∃ u, e = .returned u) ∧ P 1 w' := by
 have HB := hid hb
 have H0 := hid h0
 have C0 := hid c0
 clear hb h0 c0
 go_enter Tryz.func114, Tryz.ntmps114
 go_wp2_with fail
 go_loopw [5, 8] (fun _ i wr => ∃ (k : Nat), k ≤ 1 ∧ i = .int .i64 k ∧ P k wr) (fun _ i _ => 1 - (intOf i).toNat)
 case atStart => exact ⟨0, Nat.zero_le _, rfl, H0.out⟩
 obtain ⟨k, hk, rfl, hP⟩ := hrel
 obtain rfl | rfl : k = 0 ∨ k = 1 := by omega
 ·obtain ⟨V, hV⟩ : ∃ V, V = wr := ⟨_, rfl⟩
  have cF := (HB.out _ _ hP).cell 0
  have PK := hid (show P 0 wr from hP)
  clear hP hV
  go_wp2_with fail
  refine (C0.out wr PK.out).mono ?_
  rintro e z ⟨⟨u, rfl⟩, pz⟩
  have PZ := hid pz
  clear pz cF
  go_wp2_with fail
  go_roundw
  case rel => exact ⟨1, by omega, rfl, PZ.out⟩
  case measure => simp [intOf]
 have PK := hid (show P 1 wr from hP)
 clear hP
 go_wp2_with fail
 first | refine bodyPost_end (results_none rfl _ _ _) rfl ?_ | refine bodyPost_ret (results_none rfl _ _ _) rfl ?_
 exact ⟨⟨_, rfl⟩, PK.out⟩
end Go.Proofs.YtffklmlljekceaaGreat
namespace Go.Proofs.YtffklmlljekceaaGreat
open Go.ChangeShapes Go.WideShapes Go.ChangeAt Go.RowKit next
set_option linter.unusedSimpArgs false
set_option linter.unusedVariables false
set_option maxHeartbeats 16000000
set_option maxRecDepth 20000
theorem BxS.nextP {B g tb : Nat} {v : World} {c : Nat → Nat} {a : Option Addr} {x x2 : Rc} {cs : Array Value} {T : TypeId} {p : RcP} {X : RcX} {c' : Nat → Nat} {a' : Option Addr} {H' H2 : List Mp} {n' : Nat} {wr w2 : World} (h : BxS B g tb v c a x cs T p X c' a' H' n' wr) (hg : g < v.heap.size) (ht : tb < v.heap.size) (pp : PPost B g tb wr c' a' x2 H2 w2) : ∃ p2 X2 c2 a2 n2, BxS B g tb v c a x2 cs T p2 X2 c2 a2 H2 n2 w2 := by
 obtain ⟨h1, h2, h3, h4, h5, h6⟩ := h
 obtain ⟨p2, X2, c2, a2, n2, s, b, o⟩ := pp
 obtain ⟨q1, q2, q3⟩ := o v.heap.size h2.lt h3 (by omega) (by omega) h4
 exact ⟨p2, X2, c2, a2, n2, s, q1.trans h2, q2, q3, h5.trans b, h6.trans o h5.size⟩
def RunS (B g tb : Nat) (v : World) (c : Nat → Nat) (a : Option Addr) (fs : Array Value) (xs : Nat → Rc) (hh : Nat → List Mp → Prop) (k : Nat) (w : World) : Prop :=
 ∃ p X c' a' H n, hh k H ∧ BxS B g tb v c a (xs k) fs 153 p X c' a' H n w
def tk5 (r : Rc) : Nat → Rc
 | 0 => r
 | 1 => { r with sp := r.dp, sk := r.dk, ss := r.ds }
 | 2 => { r with sp := r.dp, sk := r.dk, ss := r.ds, held := [] }
 | 3 => { r with sp := r.dp, sk := r.dk, ss := r.ds, held := [], wish := r.wish.filter (fun t => !hasSlot (r.ds.take r.dk.toNat) t) }
 | 4 => tick1 r
 | _ => tick2 (tick1 r)
def hh5 (r : Rc) : Nat → List Mp → Prop
 | 0, H => H = []
 | 1, H => H = []
 | _, H => H.map (·.1) = r.held
def tk1 (T : Rc) : Nat → Rc
 | 0 => T
 | _ => tryR T
def hh1 (r : Rc) (_ : Nat) (H : List Mp) : Prop := H.map (·.1) = r.held
def tk4 (T : Rc) : Nat → Rc
 | 0 => T
 | 1 => ackN T T.ss.length
 | _ => leadT T
def hh4 (r T : Rc) : Nat → List Mp → Prop
 | 0, H => H.map (·.1) = r.held
 | 1, H => H.map (·.1) = r.held
 | 2, H => H.map (·.1) = r.held
 | 3, H => H.map (·.1) = r.held ++ (othP (leadT T).num (beatM (leadT T)) (leadT T).of_.toNat).map (·.1)
 | _, H => H.map (·.1) = r.held ++ (leadP (leadT T)).map (·.1)
structure TkFacts (r T : Rc) : Prop where
 ld : r.ds.length ≤ 1048576
 dk : r.dk = (r.dk.toNat : Int)
 dl : r.dk.toNat ≤ r.ds.length
 lw : r.wish.length ≤ 1048576
 he : 0 ≤ r.heard ∧ r.heard ≤ 1000000
 dr : LD (tk5 r 2) r.dk.toNat (tk5 r 2).wish = r.wish.filter (fun t => !hasSlot (r.ds.take r.dk.toNat) t)
 o1 : T2Ok (tick1 r)
 ay : AscI (tick1 r).yes
 o2 : T2Ok T
 as2 : AscOk 0 T
 hl : r.held.length ≤ 400
theorem tickFacts {r : Rc} (hv : validB r = true) (hS : RcSmall r) : TkFacts r (tick2 (tick1 r)) := by
 have ht := valid_take hv hS
 have h0 := ht.d0
 have h1 := ht.d1
 have ha := valid_asc hv
 have o1 := tick1_ok hv hS
 refine ⟨hS.lD, by omega, by omega, hS.lW, valid_heard hv, ?_, o1, ha.2, tick2_ok o1, tick2_asc ⟨ha.1.a, ha.1.f, ha.1.n, ha.1.m⟩, (valid_sm hv hS).h⟩
 unfold LD
 refine List.filter_congr fun t _ => ?_
 show (!hasText (r.ds.take r.dk.toNat) t) = _
 rw [hasText_eq hv]
structure LdFacts (T : Rc) : Prop where
 ds : (ackN T T.ss.length).ds.length ≤ 60
 wi : (ackN T T.ss.length).wish.length ≤ 1048576
 ba : wfI (ackN T T.ss.length).ball
 of_ : 0 ≤ (leadT T).of_ ∧ (leadT T).of_ ≤ 5
 dk : 0 ≤ (leadT T).dk ∧ (leadT T).dk ≤ (leadT T).ds.length
 ds2 : (leadT T).ds.length ≤ 60
 wl : openN (ackN T T.ss.length) (ackN T T.ss.length).wish = leadT T
theorem leadFacts {T : Rc} (ok : T2Ok T) : LdFacts T := by
 have h1 := ackN_ok ok.lead T.ss.length (by have := ok.ss; omega)
 obtain ⟨l, d, e⟩ := ackN_like T T.ss.length
 have h2 := h1.d0
 have h3 := h1.d1
 obtain ⟨l2, e2, n1, n2⟩ := openN_like (ackN T T.ss.length) T.wish
 have hds : (ackN T T.ss.length).ds.length ≤ 60 := by rw [e]; exact ok.ds
 refine ⟨hds, h1.sm.lW, h1.ba, ?_, ?_, (leadT_small ok).2, by unfold leadT; rw [show (ackN T T.ss.length).wish = T.wish by rw [e]]⟩
 ·unfold leadT; rw [e2]; show 0 ≤ (ackN T T.ss.length).of_ ∧ (ackN T T.ss.length).of_ ≤ 5; rw [e]; have := ok.of_; exact ⟨by show 0 ≤ T.of_; omega, this.2⟩
 unfold leadT; rw [e2]; exact ⟨h2, by show (ackN T T.ss.length).dk ≤ (l2.length : Int); omega⟩
def TickP (B g : Nat) (w : World) (col : Nat → Nat) (r' : Rc) (l : List Ms) (e : Ending) (w' : World) : Prop :=
 ∃ p' X' c' a' H n', e = .returned (.slice a' H.length n') ∧ H.map (·.1) = l ∧ Blk w' g (rcV r' p') 41 ∧ RcHas B w' r' p' X' c' ∧ OutS B w' c' a' H n' ∧ 8 < c' g ∧ Below B w w' ∧ ∀ b, b < w.heap.size → b ≠ g → 8 < col b → w'.heap[b]? = w.heap[b]? ∧ 8 < c' b
theorem implTick (B g : Nat) (r : Rc) (p : RcP) (X : RcX) (col : Nat → Nat) (w : World) (hg : B ≤ g) (hk : Blk w g (rcV r p) 41) (hc : 8 < col g) (hv : validB r = true) (hu : r.up = true) (hS : RcSmall r) (h : RcHas B w r p X col) :
  Calls Tryz.prog 66 #[.pointer (some ⟨g, 0, none⟩)] w (TickP B g w col (tickR r) (r.held ++ (tickP r).map (·.1))) := by
 have FA := hid (tickFacts hv hS)
 have HU := hid hu
 have BG := hid hg
 obtain ⟨V1, hV1⟩ : ∃ u, u = w.alloc (.cells #[.pointer (some ⟨g, 0, none⟩), .slice none 0 0] 128) := ⟨_, rfl⟩
 have EW := hid (show Below w.heap.size w V1 by rw [hV1]; exact ext_alloc (Below.refl _ _) _)
 have BW := hid (EW.out.mono (Nat.le_trans hg (Nat.le_of_lt hk.lt)))
 obtain ⟨c0, hc0⟩ : ∃ c0, c0 = colF w.heap.size col := ⟨_, rfl⟩
 have EC0 := hid hc0
 have I1 := hid (show IKS B g w.heap.size r p X c0 none [] 0 V1 by
  have kl := hk.lt
  rw [hc0]
  exact ⟨hk.ext EW.out, by rw [hV1]; exact Blk.new _ _ _, h.fresh.ext EW.out, by rw [colF_old hk.lt]; exact hc, by rw [colF_new (Nat.le_refl _)]; omega, ⟨rowC_nil0 _ _ _ _ _ _, ⟨fun m hm => absurd hm (by simp), List.Pairwise.nil⟩, fun y hy => by simp at hy, fun q hq => absurd hq (by simp), fun i s hs => by simp at hs⟩, hg, by omega, by omega⟩)
 obtain ⟨V2, hV2⟩ : ∃ u, u = V1.alloc (.cells #[.func (.func 115) #[] #[], .func (.func 116) #[] #[], .func (.func 117) #[] #[], .func (.func 118) #[] #[], .func (.func 119) #[] #[]] 153) := ⟨_, rfl⟩
 have S2 := hid (show RunS B g w.heap.size V1 c0 none FV5 (tk5 r) (hh5 r) 0 V2 from ⟨p, X, _, none, [], 0, rfl, by rw [hV2]; exact BxS.start I1.out FV5 153⟩)
 have Z1 := hid (show V1.heap.size = w.heap.size + 1 by rw [hV1]; simp)
 have LGz0 := hid (show g < V1.heap.size from I1.out.k.lt)
 clear hv hS hk hc h hg hc0 hu
 go_enter Tryz.func66, Tryz.ntmps66
 go_wp2_with ((with_reducible refine wpList_build_to (ty := 128) #[.pointer (some ⟨g, 0, none⟩), .slice none 0 0] ?_ ?_); (· kernel_rfl))
 rw [← hV1, ← hV2]
 try rw [← Z1.out]
 clear hV1 hV2
 have LG := LGz0.out
 have LB : w.heap.size < V1.heap.size := by have := Z1.out; omega
 refine (implRun5 w.heap.size V1.heap.size (RunS B g w.heap.size V1 c0 none FV5 (tk5 r) (hh5 r)) V2 (fun k u hu => by obtain ⟨_, _, _, _, _, _, _, bx⟩ := hu; exact bx.2.1) S2.out
  (fun u hu => by
   obtain ⟨p1, X1, c1, a1, H1, n1, hh1, bx⟩ := hu
   refine (implSave B g w.heap.size r p1 X1 c1 a1 H1 n1 u bx.1 FA.out.ld).mono ?_
   rintro e w' ⟨hv, pp⟩
   obtain ⟨p2, X2, c2, a2, n2, b2⟩ := bx.nextP LG LB pp
   exact ⟨hv, p2, X2, c2, a2, _, n2, hh1, b2⟩)
  (fun u hu => by
   obtain ⟨p1, X1, c1, a1, H1, n1, hh1, bx⟩ := hu
   refine (implSendHeld B g w.heap.size _ p1 X1 c1 a1 H1 n1 u bx.1).mono ?_
   rintro e w' ⟨hv, pp⟩
   obtain ⟨p2, X2, c2, a2, n2, b2⟩ := bx.nextP LG LB pp
   exact ⟨hv, p2, X2, c2, a2, _, n2, bx.1.has.hm, b2⟩)
  (fun u hu => by
   obtain ⟨p1, X1, c1, a1, H1, n1, hh1, bx⟩ := hu
   refine (implDrop B g w.heap.size _ p1 X1 c1 a1 H1 n1 u bx.1 r.dk.toNat ⟨FA.out.ld, FA.out.dk, FA.out.dl, (rowC_cap bx.1.has.d).1, bx.1.has.d.plain.1⟩ FA.out.lw).mono ?_
   rintro e w' ⟨hv, pp⟩
   obtain ⟨p2, X2, c2, a2, n2, b2⟩ := bx.nextP LG LB pp
   refine ⟨hv, p2, X2, c2, a2, _, n2, hh1, ?_⟩
   rw [show LD (tk5 r 2) r.dk.toNat (tk5 r 2).wish = r.wish.filter (fun t => !hasSlot (r.ds.take r.dk.toNat) t) from FA.out.dr] at b2
   exact b2)
  (fun u hu => by
   obtain ⟨p1, X1, c1, a1, H1, n1, hh1, bx⟩ := hu
   refine (implCount B g w.heap.size _ p1 X1 c1 a1 H1 n1 u bx.1 FA.out.he).mono ?_
   rintro e w' ⟨hv, pp⟩
   obtain ⟨p2, X2, c2, a2, n2, b2⟩ := bx.nextP LG LB pp
   exact ⟨hv, p2, X2, c2, a2, _, n2, hh1, b2⟩)
  (fun u hu => by
   obtain ⟨p1, X1, c1, a1, H1, n1, hh1, bx⟩ := hu
   refine (implPromItself B g w.heap.size _ p1 X1 c1 a1 H1 n1 u bx.1 FA.out.o1 FA.out.ay).mono ?_
   rintro e w' ⟨hv, pp⟩
   obtain ⟨p2, X2, c2, a2, n2, b2⟩ := bx.nextP LG LB pp
   exact ⟨hv, p2, X2, c2, a2, _, n2, hh1, b2⟩)).mono ?_
 rintro e z ⟨⟨u, rfl⟩, p5, X5, c5, a5, H5, n5, hh5', bx5⟩
 have ET := hid (show tk5 r 5 = tick2 (tick1 r) from rfl)
 obtain ⟨T, hT⟩ : ∃ T, T = tick2 (tick1 r) := ⟨_, rfl⟩
 have ETT := hid hT
 have S5 := hid (show IKS B g w.heap.size T p5 X5 c5 a5 H5 n5 z by rw [hT]; exact bx5.1)
 have B5 := hid (show Below B V1 z from bx5.2.2.2.2.1)
 have O5 := hid (show OthT g w.heap.size V1 c0 none z c5 a5 from bx5.2.2.2.2.2)
 have HH5 := hid (show H5.map (·.1) = r.held from hh5')
 have LGz := hid (show g < z.heap.size from S5.out.k.lt)
 have LBz := hid (show w.heap.size < z.heap.size from S5.out.t.lt)
 rw [← hT] at FA
 clear hT bx5 hh5' LG LB S2
 have LK := hid (leadFacts FA.out.o2)
 have cK := S5.out.k.cell
 cases hl : T.lead
 ·have HL := hid hl
  obtain ⟨V3, hV3⟩ : ∃ u, u = z.alloc (.cells #[.func (.func 124) #[] #[]] 153) := ⟨_, rfl⟩
  have S6 := hid (show RunS B g w.heap.size z c5 a5 FV1 (tk1 T) (hh1 r) 0 V3 from ⟨p5, X5, _, a5, H5, n5, HH5.out, by rw [hV3]; exact BxS.start S5.out FV1 153⟩)
  go_wp2_with fail
  rw [← hV3]
  clear hV3 cK
  have LG := LGz.out
  have LB := LBz.out
  refine (implRun1 w.heap.size z.heap.size (RunS B g w.heap.size z c5 a5 FV1 (tk1 T) (hh1 r)) V3 (fun k u hu => by obtain ⟨_, _, _, _, _, _, _, bx⟩ := hu; exact bx.2.1) S6.out
  (fun u hu => by
   obtain ⟨p1, X1, c1, a1, H1, n1, hh1, bx⟩ := hu
   refine (implTry B g w.heap.size T p1 X1 c1 a1 H1 n1 u bx.1 FA.out.o2).mono ?_
   rintro e w' ⟨hv, pp⟩
   obtain ⟨p2, X2, c2, a2, n2, b2⟩ := bx.nextP LG LB pp
   exact ⟨hv, p2, X2, c2, a2, _, n2, hh1, b2⟩)).mono ?_
  clear LG LB
  rintro e z2 ⟨⟨u, rfl⟩, p9, X9, c9, a9, H9, n9, hh9, bx9⟩
  have S9 := hid (show IKS B g w.heap.size (tryR T) p9 X9 c9 a9 H9 n9 z2 from bx9.1)
  have B9 := hid (B5.out.trans (show Below B z z2 from bx9.2.2.2.2.1))
  have O9 := hid (O5.out.trans (show OthT g w.heap.size z c5 a5 z2 c9 a9 from bx9.2.2.2.2.2) B5.out.size)
  have HH9 := hid (show H9.map (·.1) = r.held from hh9)
  clear hh9 bx9 S6
  have cT := S9.out.t.cell
  go_wp2_with fail
  go_ret
  exact ⟨p9, X9, c9, a9, H9, n9, rfl, by rw [HH9.out]; unfold tickP; rw [← ETT.out, if_neg (by rw [HL.out]; simp)]; simp, by unfold tickR; rw [← ETT.out, if_neg (by rw [HL.out]; simp)]; exact S9.out.k, by unfold tickR; rw [← ETT.out, if_neg (by rw [HL.out]; simp)]; exact S9.out.has, S9.out.out, S9.out.cg, BW.out.trans B9.out, fun b hlt hne h8 => by
   obtain ⟨q1, q2, _⟩ := O9.out b (Nat.lt_of_lt_of_le hlt BW.out.size) (by rw [EC0.out, colF_old hlt]; exact h8) hne (by omega) (fun y hy => by simp at hy)
   exact ⟨q1.trans (EW.out.block b hlt), q2⟩⟩
 have HL := hid hl
 obtain ⟨V3, hV3⟩ : ∃ u, u = z.alloc (.cells #[.func (.func 120) #[] #[], .func (.func 121) #[] #[], .func (.func 122) #[] #[], .func (.func 123) #[] #[]] 153) := ⟨_, rfl⟩
 have S6 := hid (show RunS B g w.heap.size z c5 a5 FV4 (tk4 T) (hh4 r T) 0 V3 from ⟨p5, X5, _, a5, H5, n5, HH5.out, by rw [hV3]; exact BxS.start S5.out FV4 153⟩)
 go_wp2_with fail
 rw [← hV3]
 clear hV3 cK
 have LG := LGz.out
 have LB := LBz.out
 refine (implRun4 w.heap.size z.heap.size (RunS B g w.heap.size z c5 a5 FV4 (tk4 T) (hh4 r T)) V3 (fun k u hu => by obtain ⟨_, _, _, _, _, _, _, bx⟩ := hu; exact bx.2.1) S6.out
 (fun u hu => by
  obtain ⟨p1, X1, c1, a1, H1, n1, hh1, bx⟩ := hu
  refine (implTookItself B g w.heap.size T p1 X1 c1 a1 H1 n1 u bx.1 FA.out.o2 FA.out.as2).mono ?_
  rintro e w' ⟨hv, pp⟩
  obtain ⟨p2, X2, c2, a2, n2, b2⟩ := bx.nextP LG LB pp
  exact ⟨hv, p2, X2, c2, a2, _, n2, hh1, b2⟩)
 (fun u hu => by
  obtain ⟨p1, X1, c1, a1, H1, n1, hh1, bx⟩ := hu
  refine (implOpen B g w.heap.size _ p1 X1 c1 a1 H1 n1 u bx.1 LK.out.ds LK.out.wi LK.out.ba).mono ?_
  rintro e w' ⟨hv, pp⟩
  obtain ⟨p2, X2, c2, a2, n2, b2⟩ := bx.nextP LG LB pp
  rw [show openN (tk4 T 1) (tk4 T 1).wish = tk4 T 2 from LK.out.wl] at b2
  exact ⟨hv, p2, X2, c2, a2, _, n2, hh1, b2⟩)
 (fun u hu => by
  obtain ⟨p1, X1, c1, a1, H1, n1, hh1, bx⟩ := hu
  have hl1 : H1.length ≤ 400 := by have h9 := congrArg List.length hh1; rw [List.length_map] at h9; have := FA.out.hl; omega
  refine (implBeats B g w.heap.size (leadT T) p1 X1 c1 a1 H1 n1 u bx.1 LK.out.of_ (by omega)).mono ?_
  rintro e w' ⟨hv, pp⟩
  obtain ⟨p2, X2, c2, a2, n2, b2⟩ := bx.nextP LG LB pp.post
  refine ⟨hv, p2, X2, c2, a2, _, n2, ?_, b2⟩
  show (H1 ++ othP (leadT T).num (beatM (leadT T)) (leadT T).of_.toNat).map (·.1) = r.held ++ (othP (leadT T).num (beatM (leadT T)) (leadT T).of_.toNat).map (·.1)
  rw [List.map_append, show H1.map (·.1) = r.held from hh1])
 (fun u hu => by
  obtain ⟨p1, X1, c1, a1, H1, n1, hh1, bx⟩ := hu
  have hl1 : H1.length ≤ 405 := by
   have h9 := congrArg List.length hh1
   have h8 := othP_len (leadT T).num (beatM (leadT T)) (leadT T).of_.toNat
   rw [List.length_map, List.length_append, List.length_map] at h9
   have := FA.out.hl
   have := LK.out.of_
   omega
  refine (implAccepts B g w.heap.size (leadT T) p1 X1 c1 a1 H1 n1 u bx.1 LK.out.of_ LK.out.dk LK.out.ds2 (by omega)).mono ?_
  rintro e w' ⟨hv, pp⟩
  obtain ⟨p2, X2, c2, a2, n2, b2⟩ := bx.nextP LG LB pp.post
  refine ⟨hv, p2, X2, c2, a2, _, n2, ?_, b2⟩
  show (H1 ++ accP (leadT T) ((leadT T).ds.length - (leadT T).dk.toNat)).map (·.1) = r.held ++ (leadP (leadT T)).map (·.1)
  rw [List.map_append, show H1.map (·.1) = r.held ++ (othP (leadT T).num (beatM (leadT T)) (leadT T).of_.toNat).map (·.1) from hh1, leadP, List.map_append, List.append_assoc])).mono ?_
 clear LG LB
 rintro e z2 ⟨⟨u, rfl⟩, p9, X9, c9, a9, H9, n9, hh9, bx9⟩
 have S9 := hid (show IKS B g w.heap.size (leadT T) p9 X9 c9 a9 H9 n9 z2 from bx9.1)
 have B9 := hid (B5.out.trans (show Below B z z2 from bx9.2.2.2.2.1))
 have O9 := hid (O5.out.trans (show OthT g w.heap.size z c5 a5 z2 c9 a9 from bx9.2.2.2.2.2) B5.out.size)
 have HH9 := hid (show H9.map (·.1) = r.held ++ (leadP (leadT T)).map (·.1) from hh9)
 clear hh9 bx9 S6
 have cT := S9.out.t.cell
 go_wp2_with fail
 go_ret
 exact ⟨p9, X9, c9, a9, H9, n9, rfl, by rw [HH9.out]; unfold tickP; rw [← ETT.out, if_pos HL.out], by unfold tickR; rw [← ETT.out, if_pos HL.out]; exact S9.out.k, by unfold tickR; rw [← ETT.out, if_pos HL.out]; exact S9.out.has, S9.out.out, S9.out.cg, BW.out.trans B9.out, fun b hlt hne h8 => by
  obtain ⟨q1, q2, _⟩ := O9.out b (Nat.lt_of_lt_of_le hlt BW.out.size) (by rw [EC0.out, colF_old hlt]; exact h8) hne (by omega) (fun y hy => by simp at hy)
  exact ⟨q1.trans (EW.out.block b hlt), q2⟩⟩
end Go.Proofs.YtffklmlljekceaaGreat
