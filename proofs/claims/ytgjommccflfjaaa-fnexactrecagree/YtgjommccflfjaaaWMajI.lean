/-
  What most disks have: impl.majorOf.
-/
import Derived.Test.YtgjommccflfjaaaWMajDef
import Derived.Test.YtgjommccflfjaaaWMap
import Derived.Test.YtgjommccflfjaaaOrdLast
import Derived.Carry
namespace Go.Proofs.Ytgjommccflfjaaa
open Go.ChangeShapes Go.WideShapes Go.ChangeAt Go.RowKit Go.Deep Go.Joins
set_option linter.unusedVariables false
set_option linter.unusedSimpArgs false

theorem Turned.trans' {a b c : World} {g : Nat} (k : Turned b c g) (h : Turned a b g) : Turned a c g := h.trans k
/-- the map counts f; the slot lies in its block; nothing but the map has turned -/
structure MajS (B : World) (g sb : Nat) (s : Sl) (f : Sl → Nat) (w' : World) : Prop where
  cnt : CntAt w' g f
  blk : Blk w' sb #[.int .i64 s.1, .string s.2] 108
  tur : Turned B w' g
theorem turned_drew (w : World) (g : Nat) : Turned w w.drew g := ⟨rfl, rfl, rfl, rfl, fun _ _ => rfl⟩
theorem updC_succ {l : List Rc} {ix : Int} {k : Nat} {r : Rc} {s : Sl} (hr : l[k]? = some r) (hs : slotAt r ix = some s) : updC (fun t => cntL (l.take k) ix t) s (cntL (l.take k) ix s + 1) = fun t => cntL (l.take (k + 1)) ix t := by
  funext t
  unfold updC
  by_cases h : t = s
  · rw [if_pos h, h, cnt_yes hr hs]
  · rw [if_neg h, cnt_no hr (by rw [hs]; intro e; exact h (Option.some.inj e).symm)]
theorem cnt_out {l : List Rc} {ix : Int} {k : Nat} {r : Rc} (hr : l[k]? = some r) (hs : slotAt r ix = none) : (fun t => cntL (l.take (k + 1)) ix t) = fun t => cntL (l.take k) ix t := by
  funext t
  exact cnt_no hr (by rw [hs]; simp)

set_option maxHeartbeats 8000000 in
set_option maxRecDepth 20000 in
theorem implMajor (a : Option Addr) (l : List Rc) (n cap : Nat) (ix : Int) (w : World) (hn : l.length = n) (hc : n ≤ 1048576) (hsm0 : RecsSmall l) (h : RecsAt w a l) :
    Calls Try.prog 45 #[.slice a n cap, .int .i64 ix] w fun e w' => e = .returned (.tuple #[.string (majR l ix).1, .bool (majR l ix).2]) ∧ Below w.heap.size w w' := by
  have HL : Hid (l.length = n) := hn
  have hsm : Hid (RecsSmall l) := hsm0
  clear hn hsm0
  have hmm := @run_makeMap Try.prog
  go_enter Try.func45, Try.ntmps45
  go_wp2
  go_loopw [13] (fun i wr => ∃ (k : Nat), k ≤ n ∧ i = .int .i64 k ∧ CntAt wr w.heap.size (fun t => cntL (l.take k) ix t) ∧ (∀ (j : Nat) r s, j < k → l[j]? = some r → slotAt r ix = some s → ¬ (0 < s.1 ∧ n < 2 * cntL (l.take (j + 1)) ix s)) ∧ Below w.heap.size w wr) (fun i _ => n - (intOf i).toNat)
  case atStart => exact ⟨0, Nat.zero_le _, rfl, by simpa [cntL] using cnt_new w, fun j r s hj => absurd hj (by omega), ext_alloc (Below.refl _ _) _⟩
  case round =>
    obtain ⟨k, hk, rfl, hcnt, hall0, hbel⟩ := hrel
    have hall : Hid (∀ (j : Nat) r s, j < k → l[j]? = some r → slotAt r ix = some s → ¬ (0 < s.1 ∧ n < 2 * cntL (l.take (j + 1)) ix s)) := hall0
    clear hall0
    by_cases hlt : k < n
    · obtain ⟨r, hr0⟩ : ∃ s, l[k]? = some s := ⟨_, List.getElem?_eq_getElem (by rw [HL.out]; exact hlt)⟩
      have hr : Hid (l[k]? = some r) := hr0
      obtain ⟨b, off, p, rfl, hb, hcs0, hR⟩ := (h.ext hbel) k r hr0
      have hcs : Hid (wr.rangeAt b (off + k * 18) (rcV r p).toList) := hcs0
      have hSm := (hsm.out k r hr0).lS
      have hgl := hcnt.lt
      have hcntH : Hid (CntAt wr w.heap.size (fun t => cntL (l.take k) ix t)) := hcnt
      clear hr0 hcs0 hcnt
      have e1 : (0 : Int) ≤ (k : Int) := by omega
      have e2 : (k : Int) < (n : Int) := by omega
      cases hin : inB ix 1 (r.ss.length : Int)
      · go_wp2_with (first
          | ((with_reducible refine wpList_load_imid b (off + k * 18) (rcV r p) rfl ?_ ?_ ?_); (· rfl); (· exact hcs.out))
          | ((with_reducible refine wpList_store_rec (rcV r p) rfl ?_ ?_ ?_ ?_ ?_); (· rfl); (· rfl); (· rfl); (· simp [Value.oneCell']))
          | (go_at_call 22; refine (within_any _ _ _ _).mono ?_; rintro e w' ⟨rfl, hw'⟩; subst w'))
        go_roundw
        case rel =>
          have hno : slotAt r ix = none := slotAt_out (fun hc => by have := inB_iff.2 hc; rw [hin] at this; cases this)
          refine ⟨k + 1, by omega, by go_num, ?_, fun j r' s hj hr' hs => ?_, ext_alloc hbel _⟩
          · rw [cnt_out hr.out hno]
            exact hcntH.out.ext (ext_alloc (Below.refl _ _) _)
          · by_cases he : j = k
            · subst he
              rw [hr.out] at hr'
              simp only [Option.some.injEq] at hr'
              subst hr'
              rw [hno] at hs
              cases hs
            · exact hall.out j r' s (by omega) hr' hs
        case measure => simp [intOf]; omega
      · have hin' := inB_iff.1 hin
        obtain ⟨s, hs0⟩ : ∃ s, r.ss[(ix - 1).toNat]? = some s := ⟨_, List.getElem?_eq_getElem (by omega)⟩
        obtain ⟨b2, off2, ha2, hb2, d0, d1, q1, q2⟩ := hR.hS _ s hs0
        have hgs : GoodSl s := ⟨q1, q2⟩
        have hsl : Hid (slotAt r ix = some s) := slotAt_in hin'.1 hin'.2 hs0
        have e9 : (ix - 1).toNat = ix.toNat - 1 := by omega
        rw [e9] at d0 d1
        clear hs0
        have u3 : (0 : Int) ≤ ix - 1 := by omega
        have u4 : ix - 1 < (r.ss.length : Int) := by omega
        obtain ⟨aS, cS, aD, cD, aH, cH, aW, cW, aY, cY, aB, cB, aA, cA⟩ := p
        simp only at ha2
        subst ha2
        go_wp2_with (first
          | ((with_reducible refine wpList_load_imid b (off + k * 18) (rcV r ⟨some ⟨b2, off2, none⟩, cS, aD, cD, aH, cH, aW, cW, aY, cY, aB, cB, aA, cA⟩) rfl ?_ ?_ ?_); (· rfl); (· exact hcs.out))
          | ((with_reducible refine wpList_store_rec (rcV r ⟨some ⟨b2, off2, none⟩, cS, aD, cD, aH, cH, aW, cW, aY, cY, aB, cB, aA, cA⟩) rfl ?_ ?_ ?_ ?_ ?_); (· rfl); (· rfl); (· rfl); (· simp [Value.oneCell']))
          | (go_at_call 22; refine (within_any _ _ _ _).mono ?_; rintro e w' ⟨rfl, hw'⟩; subst w'))
        have BV : Below wr.heap.size wr ((wr.alloc (.cells (rcV r ⟨some ⟨b2, off2, none⟩, cS, aD, cD, aH, cH, aW, cW, aY, cY, aB, cB, aA, cA⟩) 51)).alloc (.cells #[.int .i64 s.1, .string s.2] 108)) := ext_alloc (ext_alloc (Below.refl _ _) _) _
        have HC := hcntH.out.ext BV
        have HB : Blk ((wr.alloc (.cells (rcV r ⟨some ⟨b2, off2, none⟩, cS, aD, cD, aH, cH, aW, cW, aY, cY, aB, cB, aA, cA⟩) 51)).alloc (.cells #[.int .i64 s.1, .string s.2] 108)) (wr.heap.size + 1) #[.int .i64 s.1, .string s.2] 108 := Blk.new' _ _ (by simp)
        have BW := ext_trans hbel BV
        generalize hwv : ((wr.alloc (.cells (rcV r ⟨some ⟨b2, off2, none⟩, cS, aD, cD, aH, cH, aW, cW, aY, cY, aB, cB, aA, cA⟩) 51)).alloc (.cells #[.int .i64 s.1, .string s.2] 108)) = wv at BV HC HB BW ⊢
        clear hwv BV d0 d1
        have hsg : wr.heap.size + 1 ≠ w.heap.size := by omega
        have hcl := cnt_len l ix s k
        obtain ⟨f, hf⟩ : ∃ f : Sl → Nat, f = fun t => cntL (l.take k) ix t := ⟨_, rfl⟩
        rw [← hf] at HC
        have hfs : f s ≤ k := by rw [hf]; exact hcl
        have hfH : Hid (f = fun t => cntL (l.take k) ix t) := hf
        clear hf hcl
        have HS0 : MajS wv w.heap.size (wr.heap.size + 1) s f wv.drew := ⟨HC.drew, HB, turned_drew wv _⟩
        have w8 : IntKind.i64.wrap ((f s : Int) + 1) = (f s : Int) + 1 := by go_arith
        refine wp_region_last (S := MajS wv w.heap.size (wr.heap.size + 1) s f) 6 (by kernel_rfl) HS0 (fun hHeld => ?_)
        simp only [List.size_toArray, List.length_cons, List.length_nil, Nat.reduceAdd, Array.replicate_succ, Array.replicate_zero, List.push_toArray, List.append_toArray, List.nil_append, List.cons_append]
        clear HS0
        refine wpLast_take (i := 0) (v := ?_) (at_lit rfl) (by kernel_rfl) (by kernel_rfl) (by kernel_rfl) (by kernel_rfl) (fun _ _ _ h => h) (Or.inl ⟨by rfl, ?_⟩) hHeld ?_
        rotate_left
        · (intro w9 hSw; have hq := hSw.blk.cell; have hl := hSw.cnt.look hgs; clear hSw; go_simp; try with_reducible rfl)
        try simp only [Act.put, List.setIfInBounds_toArray, List.set_cons_zero, List.set_cons_succ]
        refine wpLast_take (i := 1) (v := ?_) (at_lit rfl) (by kernel_rfl) (by kernel_rfl) (by kernel_rfl) (by kernel_rfl) (fun _ _ _ h => h) (Or.inl ⟨by rfl, ?_⟩) hHeld ?_
        rotate_left
        · (intro w9 hSw; have hq := hSw.blk.cell; have hl := hSw.cnt.look hgs; clear hSw; go_simp; try with_reducible rfl)
        try simp only [Act.put, List.setIfInBounds_toArray, List.set_cons_zero, List.set_cons_succ]
        refine wpLast_take (i := 2) (v := ?_) (at_lit rfl) (by kernel_rfl) (by kernel_rfl) (by kernel_rfl) (by kernel_rfl) (fun _ _ _ h => h) (Or.inl ⟨by rfl, ?_⟩) hHeld ?_
        rotate_left
        · (intro w9 hSw; have hq := hSw.blk.cell; have hl := hSw.cnt.look hgs; clear hSw; go_simp; try with_reducible rfl)
        try simp only [Act.put, List.setIfInBounds_toArray, List.set_cons_zero, List.set_cons_succ]
        refine wpLast_take (i := 3) (v := ?_) (at_lit rfl) (by kernel_rfl) (by kernel_rfl) (by kernel_rfl) (by kernel_rfl) (fun _ _ _ h => h) (Or.inl ⟨by rfl, ?_⟩) hHeld ?_
        rotate_left
        · (intro w9 hSw; have hq := hSw.blk.cell; have hl := hSw.cnt.look hgs; clear hSw; go_simp; try with_reducible rfl)
        try simp only [Act.put, List.setIfInBounds_toArray, List.set_cons_zero, List.set_cons_succ]
        refine wpLast_ready (rs := [4]) (by kernel_rfl) (by simp) ?_
        refine AllLast.cons (at_lit rfl) (fun K hK => ?_) AllLast.nil
        obtain ⟨st, w1, hE, hC1, hT1, hfin⟩ := hHeld.cnt.entry hgs
        go_simp
        refine hK.out _ _ ⟨hC1, hT1.blk hHeld.blk hsg, hT1.trans' hHeld.tur⟩ (fun hNew => ?_)
        clear hK K
        try simp only [Act.put, List.setIfInBounds_toArray, List.set_cons_zero, List.set_cons_succ]
        clear hHeld
        have hHeld := hNew
        clear hNew
        refine wpLast_take (i := 5) (v := ?_) (at_lit rfl) (by kernel_rfl) (by kernel_rfl) (by kernel_rfl) (by kernel_rfl) (fun _ _ _ h => h) (Or.inl ⟨by rfl, ?_⟩) hHeld ?_
        rotate_left
        · (intro w9 hSw; clear hSw; go_simp; try with_reducible rfl)
        try simp only [Act.put, List.setIfInBounds_toArray, List.set_cons_zero, List.set_cons_succ]
        refine wpLast_end (by kernel_rfl) (at_lit rfl) (by kernel_rfl) (fun K hK => ?_)
        obtain ⟨w2, hF0, hC2, hT2⟩ := hfin (f s + 1)
        rw [Int.natCast_add] at hF0
        have hF : (Instr.entryStore 109 (.map (some w.heap.size)) (.int .i64 (st : Int)) (.int .i64 ((f s : Int) + 1))).run Try.prog w1 = .ok () w2 := hF0
        clear hF0
        go_simp
        refine hK.out _ _ ?_
        clear hK K
        clear hHeld hE hF hfin hC1 hT1
        have hT := (turned_drew wv w.heap.size).trans hT2
        have BW2 := hT.below BW (Nat.le_refl _)
        have sc := (hT.blk HB hsg).cell
        have hL : (Instr.lookup 109 (.map (some w.heap.size)) (.agg #[.int .i64 s.1, .string s.2]) false).run Try.prog w2 = .ok (.int .i64 ((f s : Int) + 1)) w2 := by
          have := hC2.look hgs
          simpa [updC] using this
        have hC3 : CntAt w2 w.heap.size (fun t => cntL (l.take (k + 1)) ix t) := by
          have h0 := hfH.out
          subst h0
          rw [← updC_succ hr.out hsl.out]
          exact hC2
        have hfk : Hid (f s + 1 = cntL (l.take (k + 1)) ix s) := by
          have h0 := hfH.out
          subst h0
          exact (cnt_yes hr.out hsl.out).symm
        clear hC2 hT2 hT HC HB BW hfH
        have hC3H : Hid (CntAt w2 w.heap.size (fun t => cntL (l.take (k + 1)) ix t)) := hC3
        clear hC3
        by_cases hp0 : 0 < s.1
        · have hpd : decide ((0 : Int) < s.1) = true := decide_eq_true hp0
          have w9 : IntKind.i64.wrap (2 * ((f s : Int) + 1)) = 2 * ((f s : Int) + 1) := by go_arith
          by_cases hmaj : n < 2 * (f s + 1)
          · go_wp2
            have hyes := majR_some (maj_pre hr.out hsl.out hp0 (by rw [HL.out, ← hfk.out]; exact hmaj))
            exact bodyPost_ret (v := .tuple #[.string s.2, .bool true]) (by simp [results, Try.results45, go_sem]) rfl ⟨by rw [hyes], BW2⟩
          · go_wp2
            go_roundw
            case rel =>
              refine ⟨k + 1, by omega, by go_num, hC3H.out, fun j r' s' hj hr' hs => ?_, BW2⟩
              by_cases he : j = k
              · subst he
                rw [hr.out] at hr'
                simp only [Option.some.injEq] at hr'
                subst hr'
                rw [hsl.out] at hs
                simp only [Option.some.injEq] at hs
                subst hs
                rw [← hfk.out]
                exact fun hm => hmaj hm.2
              · exact hall.out j r' s' (by omega) hr' hs
            case measure => simp [intOf]; omega
        · have hpd : decide ((0 : Int) < s.1) = false := decide_eq_false hp0
          go_wp2
          go_roundw
          case rel =>
            refine ⟨k + 1, by omega, by go_num, hC3H.out, fun j r' s' hj hr' hs => ?_, BW2⟩
            by_cases he : j = k
            · subst he
              rw [hr.out] at hr'
              simp only [Option.some.injEq] at hr'
              subst hr'
              rw [hsl.out] at hs
              simp only [Option.some.injEq] at hs
              subst hs
              exact fun hm => hp0 hm.1
            · exact hall.out j r' s' (by omega) hr' hs
          case measure => simp [intOf]; omega
    · go_wp2
      have hno := majR_none (maj_none_pre fun j r s hr hs => by rw [HL.out]; exact hall.out j r s (by have := (List.getElem?_eq_some_iff.1 hr).1; have := HL.out; omega) hr hs)
      exact bodyPost_ret (v := .tuple #[.string ⟨#[]⟩, .bool false]) (by simp [results, Try.results45, go_sem]) rfl ⟨by rw [hno], hbel⟩
end Go.Proofs.Ytgjommccflfjaaa
