import Derived.Test.YtjdceoimignnpaaF36
namespace Go.Proofs.Ytjdceoimignnpaa
open Go.ChangeShapes Go.WideShapes Go.ChangeAt Go.RowKit Go.Deep Go.Joins
set_option linter.unusedVariables false
set_option linter.unusedSimpArgs false
set_option maxHeartbeats 16000000
set_option maxRecDepth 20000
theorem qI (a1 a2 : Option Addr) (l : List Sl) (n cap1 cap2 : Nat) (w : World) (hn : l.length = n) (hc : n ≤ maxLen) (h1 : cO w a1 l) (h2 : cO w a2 l) :
  Calls Try.prog 16 #[.slice a1 n cap1, .slice a2 n cap2] w fun e w' => e = .returned (.bool true) ∧ Below w.heap.size w w' := by
 unfold maxLen at hc;have HL : Hid (l.length = n) := hn;clear hn;go_enter Try.func16, Try.ntmps16;go_wp2;go_loopw [5] (fun i wr => ∃ (k : Nat), k ≤ n ∧ i = .int .i64 k ∧ Below w.heap.size w wr) (fun i _ => n - (intOf i).toNat);case atStart => exact ⟨0, Nat.zero_le _, rfl, Below.refl _ _⟩
 obtain ⟨k, hk, rfl, hbel⟩ := hrel;by_cases hlt : k < n
 ·obtain ⟨s, hs⟩ : ∃ s, l[k]? = some s := ⟨_, List.getElem?_eq_getElem (by rw [HL.out]; exact hlt)⟩
  obtain ⟨b, off, rfl, hb, c0, c1, _⟩ := (h1.ext hbel) k s hs;obtain ⟨b2, off2, rfl, hb2, d0, d1, _⟩ := (h2.ext hbel) k s hs;clear hs h1 h2;have e1 : (0 : Int) ≤ (k : Int) := by omega
  have e2 : (k : Int) < (n : Int) := by omega
  go_wp2_with fail
  go_region_held3 (fun w' => w'.cell? ⟨b, off + k * 2, none⟩ = some (.int .i64 s.1) ∧ w'.cell? ⟨b, off + k * 2 + 1, none⟩ = some (.string s.2) ∧ w'.cell? ⟨b2, off2 + k * 2, none⟩ = some (.int .i64 s.1) ∧ w'.cell? ⟨b2, off2 + k * 2 + 1, none⟩ = some (.string s.2)) (go_keep) (fail)
  go_wp2;go_roundw;case rel => exact ⟨k + 1, by omega, by go_num, hbel.drew⟩
  case measure => simp [intOf]; omega
 go_wp2;go_ret;exact ⟨rfl, hbel⟩
theorem rP (a1 a2 : Option Addr) (l : List Int) (n cap1 cap2 : Nat) (w : World) (hn : l.length = n) (hc : n ≤ maxLen) (h1 : pG w a1 l) (h2 : pG w a2 l) :
  Calls Try.prog 34 #[.slice a1 n cap1, .slice a2 n cap2] w fun e w' => e = .returned (.bool true) ∧ ∃ m, w' = w.drewN m := by
 unfold maxLen at hc;have HL : Hid (l.length = n) := hn;clear hn;go_enter Try.func34, Try.ntmps34;go_wp2;go_loopw [5] (fun i wr => ∃ (k : Nat), k ≤ n ∧ i = .int .i64 k ∧ ∃ m, wr = w.drewN m) (fun i _ => n - (intOf i).toNat);case atStart => exact ⟨0, Nat.zero_le _, rfl, 0, rfl⟩
 obtain ⟨k, hk, rfl, hm⟩ := hrel;have hbel := iO hm;have HM := hid hm;clear hm;by_cases hlt : k < n
 ·obtain ⟨s, hs⟩ : ∃ s, l[k]? = some s := ⟨_, List.getElem?_eq_getElem (by rw [HL.out]; exact hlt)⟩
  obtain ⟨b, off, rfl, hb, c0, _⟩ := (h1.ext hbel) k s hs;obtain ⟨b2, off2, rfl, hb2, d0, _⟩ := (h2.ext hbel) k s hs;clear hs h1 h2 hbel;have e1 : (0 : Int) ≤ (k : Int) := by omega
  have e2 : (k : Int) < (n : Int) := by omega
  go_wp2
  go_quiet (fail)
  go_wp2;go_roundw;case rel => exact ⟨k + 1, by omega, by go_num, drewN_drewN HM.out _⟩
  case measure => simp [intOf]; omega
 go_wp2;go_ret;exact ⟨rfl, HM.out⟩
theorem Am (a1 a2 : Option Addr) (l : List ByteArray) (n cap1 cap2 : Nat) (w : World) (hn : l.length = n) (hc : n ≤ maxLen) (h1 : kX w a1 l) (h2 : kX w a2 l) :
  Calls Try.prog 33 #[.slice a1 n cap1, .slice a2 n cap2] w fun e w' => e = .returned (.bool true) ∧ Below w.heap.size w w' := by
 unfold maxLen at hc;have HL : Hid (l.length = n) := hn;clear hn;go_enter Try.func33, Try.ntmps33;go_wp2;go_loopw [5] (fun i wr => ∃ (k : Nat), k ≤ n ∧ i = .int .i64 k ∧ Below w.heap.size w wr) (fun i _ => n - (intOf i).toNat);case atStart => exact ⟨0, Nat.zero_le _, rfl, Below.refl _ _⟩
 obtain ⟨k, hk, rfl, hbel⟩ := hrel;by_cases hlt : k < n
 ·obtain ⟨s, hs⟩ : ∃ s, l[k]? = some s := ⟨_, List.getElem?_eq_getElem (by rw [HL.out]; exact hlt)⟩
  obtain ⟨b, off, rfl, hb, c0, _⟩ := (h1.ext hbel) k s hs;obtain ⟨b2, off2, rfl, hb2, d0, _⟩ := (h2.ext hbel) k s hs;clear hs h1 h2;have e1 : (0 : Int) ≤ (k : Int) := by omega
  have e2 : (k : Int) < (n : Int) := by omega
  go_wp2
  go_quiet (fail)
  go_wp2;go_roundw;case rel => exact ⟨k + 1, by omega, by go_num, below_drewN hbel _⟩
  case measure => simp [intOf]; omega
 go_wp2;go_ret;exact ⟨rfl, hbel⟩
theorem pM (p q : Int) (a1 a2 : Option Addr) (l : List Sl) (n cap1 cap2 : Nat) (w : World) (hn : l.length = n) (hc : n ≤ maxLen) (h1 : cO w a1 l) (h2 : cO w a2 l) :
  Calls Try.prog 13 #[.agg #[.int .i64 p, .int .i64 q, .slice a1 n cap1], .agg #[.int .i64 p, .int .i64 q, .slice a2 n cap2]] w fun e w' => e = .returned (.bool true) ∧ Below w.heap.size w w' := by
 have HL : Hid (l.length = n) := hn;clear hn;have hB : Below w.heap.size w ((w.alloc (.cells #[.int .i64 p, .int .i64 q, .slice a1 n cap1] 25)).alloc (.cells #[.int .i64 p, .int .i64 q, .slice a2 n cap2] 25)) := ae (ae (Below.refl _ _) _) _;have g1 := h1.ext hB;have g2 := h2.ext hB;go_enter Try.func13, Try.ntmps13;go_wp2_with (go_at_call 16; refine (qI a1 a2 l n cap1 cap2 _ HL.out hc g1 g2).mono ?_; rintro e w' ⟨rfl, hb'⟩);go_ret;exact ⟨rfl, aj hB hb'⟩
theorem xU (h : gq) (a1 a2 : Option Addr) (l : List Sl) (n cap1 cap2 : Nat) (w : World) (hn : l.length = n) (hc : n ≤ maxLen) (h1 : cO w a1 l) (h2 : cO w a2 l) :
  Calls Try.prog 71 #[.agg (bU h (.slice a1 n cap1)), .agg (bU h (.slice a2 n cap2))] w fun e w' => e = .returned (.bool true) ∧ Below w.heap.size w w' := by
 have HL : Hid (l.length = n) := hn;clear hn;have hB : Below w.heap.size w ((w.alloc (.cells (bU h (.slice a1 n cap1)) 49)).alloc (.cells (bU h (.slice a2 n cap2)) 49)) := ae (ae (Below.refl _ _) _) _;have g1 := h1.ext hB;have g2 := h2.ext hB;go_enter Try.func71, Try.ntmps71;go_wp2_with (go_at_call 16; refine (qI a1 a2 l n cap1 cap2 _ HL.out hc g1 g2).mono ?_; rintro e w' ⟨rfl, hb'⟩);go_ret;exact ⟨rfl, aj hB hb'⟩
theorem xy (a1 a2 : Option Addr) (l : List Ms) (n cap1 cap2 : Nat) (w : World) (hn : l.length = n) (hc : n ≤ maxLen) (h1 : jB w a1 l) (h2 : jB w a2 l) :
  Calls Try.prog 32 #[.slice a1 n cap1, .slice a2 n cap2] w fun e w' => e = .returned (.bool true) ∧ Below w.heap.size w w' := by
 unfold maxLen at hc;have HL : Hid (l.length = n) := hn;clear hn;go_enter Try.func32, Try.ntmps32;go_wp2;go_loopw [5] (fun i wr => ∃ (k : Nat), k ≤ n ∧ i = .int .i64 k ∧ Below w.heap.size w wr) (fun i _ => n - (intOf i).toNat);case atStart => exact ⟨0, Nat.zero_le _, rfl, Below.refl _ _⟩
 obtain ⟨k, hk, rfl, hbel⟩ := hrel;by_cases hlt : k < n
 ·obtain ⟨s, hs⟩ : ∃ s, l[k]? = some s := ⟨_, List.getElem?_eq_getElem (by rw [HL.out]; exact hlt)⟩
  obtain ⟨b, off, sa, cp, rfl, hb, c0, c1, c2, c3, c4, c5, c6, c7, q1, q2, q3⟩ := (h1.ext hbel) k s hs;obtain ⟨b2, off2, sa2, cp2, rfl, hb2, d0, d1, d2, d3, d4, d5, d6, d7, p1, p2, p3⟩ := (h2.ext hbel) k s hs;clear hs h1 h2;have e1 : (0 : Int) ≤ (k : Int) := by omega
  have e2 : (k : Int) < (n : Int) := by omega
  have K6 : Hid (∀ w', Below wr.heap.size wr w' → w'.cell? ⟨b, off + k * 8, none⟩ = some (.int .i64 s.1.k) ∧ w'.cell? ⟨b, off + k * 8 + 1, none⟩ = some (.int .i64 s.1.f) ∧ w'.cell? ⟨b, off + k * 8 + 2, none⟩ = some (.int .i64 s.1.t) ∧ w'.cell? ⟨b, off + k * 8 + 3, none⟩ = some (.int .i64 s.1.b) ∧ w'.cell? ⟨b, off + k * 8 + 4, none⟩ = some (.int .i64 s.1.i) ∧ w'.cell? ⟨b, off + k * 8 + 5, none⟩ = some (.int .i64 s.1.n) ∧ w'.cell? ⟨b, off + k * 8 + 6, none⟩ = some (.string s.1.x) ∧ w'.cell? ⟨b, off + k * 8 + 7, none⟩ = some (.slice sa s.2.length cp) ∧ w'.cell? ⟨b2, off2 + k * 8, none⟩ = some (.int .i64 s.1.k) ∧ w'.cell? ⟨b2, off2 + k * 8 + 1, none⟩ = some (.int .i64 s.1.f) ∧ w'.cell? ⟨b2, off2 + k * 8 + 2, none⟩ = some (.int .i64 s.1.t) ∧ w'.cell? ⟨b2, off2 + k * 8 + 3, none⟩ = some (.int .i64 s.1.b) ∧ w'.cell? ⟨b2, off2 + k * 8 + 4, none⟩ = some (.int .i64 s.1.i) ∧ w'.cell? ⟨b2, off2 + k * 8 + 5, none⟩ = some (.int .i64 s.1.n) ∧ w'.cell? ⟨b2, off2 + k * 8 + 6, none⟩ = some (.string s.1.x) ∧ w'.cell? ⟨b2, off2 + k * 8 + 7, none⟩ = some (.slice sa2 s.2.length cp2) ∧ Below wr.heap.size wr w') := fun w' hb9 => by
   exact ⟨(hb9.cell (p := ⟨b, off + k * 8, none⟩) hb).trans c0, (hb9.cell (p := ⟨b, off + k * 8 + 1, none⟩) hb).trans c1, (hb9.cell (p := ⟨b, off + k * 8 + 2, none⟩) hb).trans c2, (hb9.cell (p := ⟨b, off + k * 8 + 3, none⟩) hb).trans c3, (hb9.cell (p := ⟨b, off + k * 8 + 4, none⟩) hb).trans c4, (hb9.cell (p := ⟨b, off + k * 8 + 5, none⟩) hb).trans c5, (hb9.cell (p := ⟨b, off + k * 8 + 6, none⟩) hb).trans c6, (hb9.cell (p := ⟨b, off + k * 8 + 7, none⟩) hb).trans c7, (hb9.cell (p := ⟨b2, off2 + k * 8, none⟩) hb2).trans d0, (hb9.cell (p := ⟨b2, off2 + k * 8 + 1, none⟩) hb2).trans d1, (hb9.cell (p := ⟨b2, off2 + k * 8 + 2, none⟩) hb2).trans d2, (hb9.cell (p := ⟨b2, off2 + k * 8 + 3, none⟩) hb2).trans d3, (hb9.cell (p := ⟨b2, off2 + k * 8 + 4, none⟩) hb2).trans d4, (hb9.cell (p := ⟨b2, off2 + k * 8 + 5, none⟩) hb2).trans d5, (hb9.cell (p := ⟨b2, off2 + k * 8 + 6, none⟩) hb2).trans d6, (hb9.cell (p := ⟨b2, off2 + k * 8 + 7, none⟩) hb2).trans d7, hb9⟩
  go_wp2_with fail
  go_region_held3 (fun w' => w'.cell? ⟨b, off + k * 8, none⟩ = some (.int .i64 s.1.k) ∧ w'.cell? ⟨b, off + k * 8 + 1, none⟩ = some (.int .i64 s.1.f) ∧ w'.cell? ⟨b, off + k * 8 + 2, none⟩ = some (.int .i64 s.1.t) ∧ w'.cell? ⟨b, off + k * 8 + 3, none⟩ = some (.int .i64 s.1.b) ∧ w'.cell? ⟨b, off + k * 8 + 4, none⟩ = some (.int .i64 s.1.i) ∧ w'.cell? ⟨b, off + k * 8 + 5, none⟩ = some (.int .i64 s.1.n) ∧ w'.cell? ⟨b, off + k * 8 + 6, none⟩ = some (.string s.1.x) ∧ w'.cell? ⟨b, off + k * 8 + 7, none⟩ = some (.slice sa s.2.length cp) ∧ w'.cell? ⟨b2, off2 + k * 8, none⟩ = some (.int .i64 s.1.k) ∧ w'.cell? ⟨b2, off2 + k * 8 + 1, none⟩ = some (.int .i64 s.1.f) ∧ w'.cell? ⟨b2, off2 + k * 8 + 2, none⟩ = some (.int .i64 s.1.t) ∧ w'.cell? ⟨b2, off2 + k * 8 + 3, none⟩ = some (.int .i64 s.1.b) ∧ w'.cell? ⟨b2, off2 + k * 8 + 4, none⟩ = some (.int .i64 s.1.i) ∧ w'.cell? ⟨b2, off2 + k * 8 + 5, none⟩ = some (.int .i64 s.1.n) ∧ w'.cell? ⟨b2, off2 + k * 8 + 6, none⟩ = some (.string s.1.x) ∧ w'.cell? ⟨b2, off2 + k * 8 + 7, none⟩ = some (.slice sa2 s.2.length cp2) ∧ Below wr.heap.size wr w')
   ((go_split_ands; refine K6.out _ ?_; first | exact (Below.refl _ _).drew | exact (Below.refl _ _) | assumption | exact aj (by assumption) (by assumption) | exact (aj (by assumption) (by assumption)).drew))
   (first | (go_at_call 71; go_split_ands; refine (xU s.1 _ _ s.2 _ _ _ _ rfl q2 (q3.ext (by assumption)) (p3.ext (by assumption))).mono ?_; rintro e w' ⟨rfl, hb'⟩))
  go_split_ands
  have BB7 := aj hbel (show Below wr.heap.size wr w' by assumption);go_wp2;go_roundw;case rel => exact ⟨k + 1, by omega, by go_num, BB7⟩
  case measure => simp [intOf]; omega
 go_wp2;go_ret;exact ⟨rfl, hbel⟩
theorem qE (r : Rc) (p q : fU) (w : World) (h : oL w r p) (h' : oL w r q) :
  Calls Try.prog 8 #[.agg (au r p), .agg (au r q)] w fun e w' => e = .returned (.bool true) ∧ Below w.heap.size w w' := by
 obtain ⟨V, hV⟩ : ∃ V, V = ((w.alloc (.cells (au r p) 31)).alloc (.cells (au r q) 31)) := ⟨_, rfl⟩
 have hB : Below w.heap.size w V := by rw [hV]; exact ae (ae (Below.refl _ _) _) _
 have hR := h.ext hB;have hQ := h'.ext hB;have b0 : aC V w.heap.size (au r p) 31 := by rw [hV]; exact (aC.new w _ _).alloc _
 have b1 : aC V (w.heap.size + 1) (au r q) 31 := by rw [hV]; exact aC.new' _ _ (by simp)
 have HB0 := Below.refl V.heap.size V;clear h h';go_enter Try.func8, Try.ntmps8;go_wp2_with fail;rw [← hV];clear hV;refine (pM _ _ p.aS q.aS r.ss _ p.cS q.cS _ rfl hR.lS (by exact (hR.ext HB0).hS) (by exact (hQ.ext HB0).hS)).mono ?_;rintro e w0 ⟨rfl, hb0⟩;have HB1 := aj HB0 hb0;have cb0 := (b0.ext HB1).cell;have db0 := (b1.ext HB1).cell;clear HB0 hb0;go_wp2_with fail;refine (pM _ _ p.aD q.aD r.ds _ p.cD q.cD _ rfl hR.lD (by exact (hR.ext HB1).hD) (by exact (hQ.ext HB1).hD)).mono ?_;rintro e w1 ⟨rfl, hb1⟩;have HB2 := aj HB1 hb1;have cb1 := (b0.ext HB2).cell;have db1 := (b1.ext HB2).cell;clear HB1 hb1 cb0 db0;go_wp2_with fail;refine (xy p.aH q.aH r.held _ p.cH q.cH _ rfl hR.lH (by exact (hR.ext HB2).hH) (by exact (hQ.ext HB2).hH)).mono ?_;rintro e w2 ⟨rfl, hb2⟩;have HB3 := aj HB2 hb2;have cb2 := (b0.ext HB3).cell;have db2 := (b1.ext HB3).cell;clear HB2 hb2 cb1 db1;go_wp2_with fail;refine (Am p.aW q.aW r.wish _ p.cW q.cW _ rfl hR.lW (by exact (hR.ext HB3).hW) (by exact (hQ.ext HB3).hW)).mono ?_;rintro e w3 ⟨rfl, hb3⟩;have HB4 := aj HB3 hb3;have cb3 := (b0.ext HB4).cell;have db3 := (b1.ext HB4).cell;clear HB3 hb3 cb2 db2;go_wp2_with fail;refine (rP p.aY q.aY r.yes _ p.cY q.cY _ rfl hR.lY (by exact (hR.ext HB4).hY) (by exact (hQ.ext HB4).hY)).mono ?_;rintro e w4 ⟨rfl, hb4⟩;replace hb4 := iO hb4;have HB5 := aj HB4 hb4;have cb4 := (b0.ext HB5).cell;have db4 := (b1.ext HB5).cell;clear HB4 hb4 cb3 db3;go_wp2_with fail;refine (qI p.aB q.aB r.best _ p.cB q.cB _ rfl hR.lB (by exact (hR.ext HB5).hB) (by exact (hQ.ext HB5).hB)).mono ?_;rintro e w5 ⟨rfl, hb5⟩;have HB6 := aj HB5 hb5;have cb5 := (b0.ext HB6).cell;have db5 := (b1.ext HB6).cell;clear HB5 hb5 cb4 db4;go_wp2_with fail;have hc := hR.lA;unfold maxLen at hc;have W5 := hid HB6;have AR := hid (hR.ext HB6).hA;have AQ := hid (hQ.ext HB6).hA;have K0 := hid (b0.ext HB6);have K1 := hid (b1.ext HB6);clear HB6 cb5 db5 hR hQ b0 b1;go_loopw [5] (fun i wr => ∃ (k : Nat), k ≤ r.acks.length ∧ i = .int .i64 k ∧ Below w5.heap.size w5 wr) (fun i _ => r.acks.length - (intOf i).toNat);case atStart => exact ⟨0, Nat.zero_le _, rfl, Below.refl _ _⟩
 obtain ⟨k, hk, rfl, hbel⟩ := hrel;have C0 := (K0.out.ext hbel).cell;have C1 := (K1.out.ext hbel).cell;by_cases hlt : k < r.acks.length
 ·obtain ⟨s, hs⟩ : ∃ s, r.acks[k]? = some s := ⟨_, List.getElem?_eq_getElem hlt⟩
  obtain ⟨b, off, sa, cp, hpa, hb, c0, c1, q1, q2, q3⟩ := (AR.out.ext hbel) k s hs;obtain ⟨b2, off2, sa2, cp2, hqa, hb2, d0, d1, p1, p2, p3⟩ := (AQ.out.ext hbel) k s hs;clear hs;have e1 : (0 : Int) ≤ (k : Int) := by omega
  have e2 : (k : Int) < (r.acks.length : Int) := by omega
  have Q3 := hid q3;have P3 := hid p3;clear q3 p3 q1 p1 p2;go_wp2_with fail
  go_quiet (first | (go_at_call 34; exact Calls.quiet_of (rP _ _ s.2 _ _ _ _ rfl q2 (Q3.out.ext (below_drewN (Below.refl _ _) _)) (P3.out.ext (below_drewN (Below.refl _ _) _)))))
  go_wp2_with fail;go_roundw;case rel => exact ⟨k + 1, by omega, by go_num, below_drewN hbel _⟩
  case measure => simp [intOf]; omega
 go_wp2_with fail;go_ret;exact ⟨rfl, aj hB (aj W5.out hbel)⟩
/-- its cells -/
abbrev zH (r : Rc) (p : fU) : Array Value := #[.int .i64 r.num, .int .i64 r.of_, .int .i64 r.sp, .int .i64 r.sk, .slice p.aS r.ss.length p.cS, .bool r.up, .int .i64 r.dp, .int .i64 r.dk, .slice p.aD r.ds.length p.cD, .slice p.aH r.held.length p.cH, .slice p.aW r.wish.length p.cW, .bool r.lead, .bool r.tr, .int .i64 r.ball, .slice p.aY r.yes.length p.cY, .slice p.aB r.best.length p.cB, .slice p.aA r.acks.length p.cA, .int .i64 r.heard]
abbrev LY (r : Rc) (p : fU) : Array Value := #[.int .i64 r.num, .int .i64 r.of_, .int .i64 r.sp, .int .i64 r.sk, .slice p.aS r.ss.length p.cS]
abbrev JQ (r : Rc) (p : fU) : Array Value := #[.bool r.up, .int .i64 r.dp, .int .i64 r.dk, .slice p.aD r.ds.length p.cD, .slice p.aH r.held.length p.cH, .slice p.aW r.wish.length p.cW, .bool r.lead, .bool r.tr, .int .i64 r.ball, .slice p.aY r.yes.length p.cY, .slice p.aB r.best.length p.cB, .slice p.aA r.acks.length p.cA, .int .i64 r.heard]
set_option maxHeartbeats 8000000 in
set_option maxRecDepth 20000 in
theorem yh (r : Rc) (p : fU) (w : World) :
  Calls Try.prog 29 #[.agg (au r p)] w fun e w' => e = .returned (.agg (zH r p)) ∧ Below w.heap.size w w' := by
 have hc := (aC.new w (au r p) 31).cell;go_enter Try.func29, Try.ntmps29
 go_wp2_with (first
  | ((with_reducible refine bH (ty := 58) (LY r p) ?_ ?_); (· kernel_rfl))
  | ((with_reducible refine bH (ty := 60) (JQ r p) ?_ ?_); (· kernel_rfl))
  | ((with_reducible refine bH (ty := 62) (zH r p) ?_ ?_); (· kernel_rfl))
  | ((with_reducible refine dU (ty := 62) (zH r p) ?_ ?_ ?_ ?_ ?_ ?_); rfl; rfl; (· kernel_rfl); rfl; simp [Value.oneCell']))
 refine az (ty := 62) Try.results29 (w.heap.size + 1) (zH r p) _ ?_ ?_ (aC.new' _ _ (by simp)) Try.underlying62 rfl (by kernel_rfl) ⟨rfl, ae (ae (Below.refl _ _) _) _⟩
 ·rfl
 ·rfl
set_option maxHeartbeats 8000000 in
set_option maxRecDepth 20000 in
theorem ve (r : Rc) (p : fU) (w : World) :
  Calls Try.prog 31 #[.agg (zH r p)] w fun e w' => e = .returned (.agg (au r p)) ∧ Below w.heap.size w w' := by
 have hc := (aC.new w (zH r p) 62).cell;go_enter Try.func31, Try.ntmps31
 go_wp2_with (first
  | ((with_reducible refine bH (ty := 31) (au r p) ?_ ?_); (· kernel_rfl))
  | ((with_reducible refine dU (ty := 31) (au r p) ?_ ?_ ?_ ?_ ?_ ?_); rfl; rfl; (· kernel_rfl); rfl; simp [Value.oneCell']))
 refine az (ty := 31) Try.results31 (w.heap.size + 1) (au r p) _ ?_ ?_ (aC.new' _ _ (by simp)) Try.underlying31 rfl (by kernel_rfl) ⟨rfl, ae (ae (Below.refl _ _) _) _⟩
 ·rfl
 ·rfl
set_option maxHeartbeats 16000000 in
set_option maxRecDepth 20000 in
theorem FP (B : Nat) (r : Rc) (p : fU) (X : iU) (col : Nat → Nat) (w : World) (hS : bD r) (h : aG B w r p X col) :
  Calls Try.prog 6 #[.agg (au r p)] w (yz w (dn r)) := by
 have RD := hid h;have HS := hid hS;clear h hS;obtain ⟨V, hV⟩ : ∃ V, V = (w.alloc (.cells (au r p) 31)).alloc (.cells bP 31) := ⟨_, rfl⟩
 have BV := hid (show Below w.heap.size w V by rw [hV]; exact ae (ae (Below.refl _ _) _) _);have K1 := hid (show aC V w.heap.size (au r p) 31 by rw [hV]; exact (aC.new _ _ _).alloc _);have K2 := hid (show aC V (w.heap.size + 1) bP 31 by rw [hV]; exact aC.new' _ _ (by simp));have SZ := hid (show w.heap.size + 1 < V.heap.size from K2.out.lt);have k1 := K1.out;rw [hV] at k1;go_enter Try.func6, Try.ntmps6;go_wp2_with ((with_reducible refine ah w.heap.size (au r p) rfl ?_ ?_ ?_); rfl; exact k1);rw [← hV];clear hV k1;refine (qY r p _ (hid RD.out.t.len.2) (RD.out.ext BV.out).at).mono ?_;rintro e w1 ⟨rfl, hb1⟩;have B1 := hid (aj BV.out hb1);have k1 := K1.out.ext hb1;have k2 := K2.out.ext hb1;have K2b := hid k2;have SZ1 := hid (show w.heap.size + 1 < w1.heap.size from k2.lt);clear hb1 K1 K2 BV SZ;cases hv : bf r
 case false =>
  have HN := hid (rW hv)
  go_wp2_with (first
   | ((with_reducible refine bH (ty := 31) bP ?_ ?_); (· kernel_rfl))
   | ((with_reducible refine af (w.heap.size + 1) bP bP rfl rfl ?_ ?_ ?_ ?_ ?_); rfl; rfl; exact k2; simp [Value.oneCell']))
  have hz := setRow_heap _ (w.heap.size + 1) _ bP _ _ k2;refine az (ty := 31) Try.results6 (w.heap.size + 1) bP _ ?_ ?_ hz Try.underlying31 rfl (by kernel_rfl) ?_
  ·rfl
  ·rfl
  rw [HN.out];exact ⟨IX, ⟨[], []⟩, fun _ => 0, rfl, lT _ _ _, ay B1.out (by omega) _⟩
 have HN := hid (nO hv);go_wp2_with ((with_reducible refine ah w.heap.size (au r p) rfl ?_ ?_ ?_); rfl; exact k1);refine (yh r p _).mono ?_;rintro e w2 ⟨rfl, hb2⟩;have B2 := hid (aj B1.out hb2);have K2c := hid (K2b.out.ext hb2);clear hb2 k1 k2 K2b;have kf := aC.new w2 (zH (gV r) (vw p)) 62;have cf := (aC.new w2 (zH r p) 62).cell
 go_wp2_with (first
  | ((with_reducible refine dU (ty := 62) (zH r p) ?_ ?_ ?_ ?_ ?_ ?_); rfl; rfl; (· kernel_rfl); rfl; simp [Value.oneCell'])
  | ((with_reducible refine bH (ty := 60) (JQ (gV r) (vw p)) ?_ ?_); (· kernel_rfl))
  | ((with_reducible refine gQ w2.heap.size (zH (gV r) (vw p)) _ ?_ ?_ Try.underlying62 rfl ?_ ?_); rfl; exact kf; (· kernel_rfl)))
 clear cf kf;have B3 := hid (show Below w.heap.size w (w2.alloc (.cells (zH (gV r) (vw p)) 62)) from ae B2.out _);have K2d := hid (show aC (w2.alloc (.cells (zH (gV r) (vw p)) 62)) (w.heap.size + 1) bP 31 from K2c.out.alloc _);refine (ve (gV r) (vw p) _).mono ?_;rintro e w4 ⟨rfl, hb4⟩;have B4 := hid (aj B3.out hb4);have K2e := hid (K2d.out.ext hb4);clear hb4;go_wp2_with fail;refine (zJ (gV r) (vw p) ⟨[], []⟩ _ (xB HS.out) ((RD.out.ext B4.out).reads.fall)).mono ?_;rintro e w5 ⟨p5, X5, col5, rfl, has5, hb5⟩;have H5 := hid has5;have B5 := hid (aj B4.out hb5);have k2 := K2e.out.ext hb5;have SZ4 := hid (show w.heap.size + 1 < w4.heap.size from K2e.out.lt);clear has5 hb5;go_wp2_with ((with_reducible refine af (w.heap.size + 1) bP (au (gV r) p5) rfl rfl ?_ ?_ ?_ ?_ ?_); rfl; rfl; exact k2; simp [Value.oneCell']);have hz := setRow_heap _ (w.heap.size + 1) _ (au (gV r) p5) _ _ k2;refine az (ty := 31) Try.results6 (w.heap.size + 1) (au (gV r) p5) _ ?_ ?_ hz Try.underlying31 rfl (by kernel_rfl) ?_
 ·rfl
 ·rfl
 rw [HN.out];exact ⟨p5, X5, _, rfl, (H5.out.far SZ4.out _).lower (by have := SZ4.out; omega), ay B5.out (by omega) _⟩
set_option maxHeartbeats 16000000 in
set_option maxRecDepth 20000 in
theorem FI (B : Nat) (r : Rc) (p : fU) (X : iU) (col : Nat → Nat) (w : World) (hS : bD r) (h : aG B w r p X col) :
  Calls Try.prog 7 #[.agg (au r p)] w (yz w (eu r)) := by
 have RD := hid h;have HS := hid hS;clear h hS;obtain ⟨V, hV⟩ : ∃ V, V = (w.alloc (.cells (au r p) 31)).alloc (.cells bP 31) := ⟨_, rfl⟩
 have BV := hid (show Below w.heap.size w V by rw [hV]; exact ae (ae (Below.refl _ _) _) _);have K1 := hid (show aC V w.heap.size (au r p) 31 by rw [hV]; exact (aC.new _ _ _).alloc _);have K2 := hid (show aC V (w.heap.size + 1) bP 31 by rw [hV]; exact aC.new' _ _ (by simp));have SZ := hid (show w.heap.size + 1 < V.heap.size from K2.out.lt);have k1 := K1.out;rw [hV] at k1;go_enter Try.func7, Try.ntmps7;go_wp2_with ((with_reducible refine ah w.heap.size (au r p) rfl ?_ ?_ ?_); rfl; exact k1);rw [← hV];clear hV k1;refine (qY r p _ (hid RD.out.t.len.2) (RD.out.ext BV.out).at).mono ?_;rintro e w1 ⟨rfl, hb1⟩;have B1 := hid (aj BV.out hb1);have k1 := K1.out.ext hb1;have k2 := K2.out.ext hb1;have K2b := hid k2;have SZ1 := hid (show w.heap.size + 1 < w1.heap.size from k2.lt);clear hb1 K1 K2 BV SZ;cases hv : bf r
 case false =>
  have HN := hid (sD hv)
  go_wp2_with (first
   | ((with_reducible refine bH (ty := 31) bP ?_ ?_); (· kernel_rfl))
   | ((with_reducible refine af (w.heap.size + 1) bP bP rfl rfl ?_ ?_ ?_ ?_ ?_); rfl; rfl; exact k2; simp [Value.oneCell']))
  have hz := setRow_heap _ (w.heap.size + 1) _ bP _ _ k2;refine az (ty := 31) Try.results7 (w.heap.size + 1) bP _ ?_ ?_ hz Try.underlying31 rfl (by kernel_rfl) ?_
  ·rfl
  ·rfl
  rw [HN.out];exact ⟨IX, ⟨[], []⟩, fun _ => 0, rfl, lT _ _ _, ay B1.out (by omega) _⟩
 have HN := hid (nK hv);go_wp2_with ((with_reducible refine ah w.heap.size (au r p) rfl ?_ ?_ ?_); rfl; exact k1);refine (yh r p _).mono ?_;rintro e w2 ⟨rfl, hb2⟩;have B2 := hid (aj B1.out hb2);have K2c := hid (K2b.out.ext hb2);clear hb2 k1 k2 K2b;have kf := aC.new w2 (zH (iK r) p) 62;have cf := (aC.new w2 (zH r p) 62).cell
 go_wp2_with (first
  | ((with_reducible refine dU (ty := 62) (zH r p) ?_ ?_ ?_ ?_ ?_ ?_); rfl; rfl; (· kernel_rfl); rfl; simp [Value.oneCell'])
  | ((with_reducible refine gQ w2.heap.size (zH (iK r) p) _ ?_ ?_ Try.underlying62 rfl ?_ ?_); rfl; exact kf; (· kernel_rfl)))
 clear cf kf;have B3 := hid (show Below w.heap.size w (w2.alloc (.cells (zH (iK r) p) 62)) from ae B2.out _);have K2d := hid (show aC (w2.alloc (.cells (zH (iK r) p) 62)) (w.heap.size + 1) bP 31 from K2c.out.alloc _);refine (ve (iK r) p _).mono ?_;rintro e w4 ⟨rfl, hb4⟩;have B4 := hid (aj B3.out hb4);have K2e := hid (K2d.out.ext hb4);clear hb4;go_wp2_with fail;refine (zJ (iK r) p X _ (BO HS.out) ((RD.out.ext B4.out).reads.rise)).mono ?_;rintro e w5 ⟨p5, X5, col5, rfl, has5, hb5⟩;have H5 := hid has5;have B5 := hid (aj B4.out hb5);have k2 := K2e.out.ext hb5;have SZ4 := hid (show w.heap.size + 1 < w4.heap.size from K2e.out.lt);clear has5 hb5;go_wp2_with ((with_reducible refine af (w.heap.size + 1) bP (au (iK r) p5) rfl rfl ?_ ?_ ?_ ?_ ?_); rfl; rfl; exact k2; simp [Value.oneCell']);have hz := setRow_heap _ (w.heap.size + 1) _ (au (iK r) p5) _ _ k2;refine az (ty := 31) Try.results7 (w.heap.size + 1) (au (iK r) p5) _ ?_ ?_ hz Try.underlying31 rfl (by kernel_rfl) ?_
 ·rfl
 ·rfl
 rw [HN.out];exact ⟨p5, X5, _, rfl, (H5.out.far SZ4.out _).lower (by have := SZ4.out; omega), ay B5.out (by omega) _⟩
end Go.Proofs.Ytjdceoimignnpaa
