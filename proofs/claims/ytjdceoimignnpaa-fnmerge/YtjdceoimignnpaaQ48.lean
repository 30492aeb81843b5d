import Derived.Test.YtjdceoimignnpaaQ47
namespace Go.Proofs.Ytjdceoimignnpaa
open Go.ChangeShapes Go.WideShapes Go.ChangeAt Go.RowKit next
set_option linter.unusedVariables false
set_option linter.unusedSimpArgs false
set_option maxHeartbeats 32000000
set_option maxRecDepth 20000
structure BkR (g : Nat) (cs : Array Value) (w : World) : Prop where
 k : Blk w g cs 31
structure BkRM (g gm : Nat) (cs ms : Array Value) (w : World) : Prop where
 k : Blk w g cs 31
 m : Blk w gm ms 49
theorem wpList_store_m8a {ops : Array Oper} {rest : List Oper} {dst : Option Tmp} {x y : Operand} {τ : TypeId} {pos : String} {after : Array Edge} {a : Act} {w : World} {Q : Exit → Act → World → Prop}
  (g : Nat) (old cells : Array Value) (hs : cells.size = 8) (ho : old.size = 8) (hx : a.eval x = .pointer (some ⟨g, 0, none⟩)) (hy : a.eval y = .agg cells) (hg : Blk w g old 49) (h1 : cells.all (·.oneCell') = true)
  (h : wpList Try.prog ops Q rest (a.put dst undef) (w.setRow g cells)) :
  wpList Try.prog ops Q ({ dst := dst, op := .store 49 x y, type := τ, pos := pos, after := after, guard := none } :: rest) a w :=
 wpList_store_row (o := { dst := dst, op := .store 49 x y, type := τ, pos := pos, after := after, guard := none }) rfl 49 x y rfl g cells hx hy 49 old hg (by rw [hs]; kernel_rfl) (by rw [ho, hs]) h1 h
theorem RX.dk {w0 : World} {g : Nat} {ca : Option Addr} {n cap : Nat} {X : List (Nat × TypeId × Array Value)} {p : Nat} {wr : World} (h : RX w0 g ca n cap X p wr) : DK w0 g ca n cap X [] 0 none 0 p wr :=
 ⟨h, ⟨World.ownsRow_nil _ _ _ _, fun _ hx => by simp at hx⟩, rfl, fun _ _ _ hx => by simp at hx, fun _ hs => absurd hs (by simp)⟩
def FinM (w : World) (g : Nat) (ca : Option Addr) (n cap : Nat) (r : Rc) (pr : RcP) (k : Nat) (a a' : Act) (w' : World) : Prop :=
 ∃ gm hm u21 u22 u23 u24 u25 u26 u27 u28 u29 u30 u31 u32 u33 u34 u35 u36 u37 u38 u39 u40 u41 u42 u43 u44 u45 u46 u47 u48, a' = ((((((((((((((((((((((((((((a.put (some 21) u21).put (some 22) u22).put (some 23) u23).put (some 24) u24).put (some 25) u25).put (some 26) u26).put (some 27) u27).put (some 28) u28).put (some 29) u29).put (some 30) u30).put (some 31) u31).put (some 32) u32).put (some 33) u33).put (some 34) u34).put (some 35) u35).put (some 36) u36).put (some 37) u37).put (some 38) u38).put (some 39) u39).put (some 40) u40).put (some 41) u41).put (some 42) u42).put (some 43) u43).put (some 44) u44).put (some 45) u45).put (some 46) u46).put (some 47) u47).put (some 48) u48).put (some 6) (.pointer (some ⟨gm, 0, none⟩)) ∧ hm.x.size ≤ 2 ∧ (gm ≠ w.heap.size ∧ gm ≠ w.heap.size + 1) ∧ (1 ≤ hm.k ∧ hm.k ≤ 9) ∧ RX w g ca n cap ((gm, 49, msgV hm (.slice none 0 0)) :: (w.heap.size, 31, rcV r pr) :: (w.heap.size + 1, 49, #[.int .i64 0, .int .i64 0, .int .i64 0, .int .i64 0, .int .i64 0, .int .i64 0, .string ⟨#[]⟩, .slice none 0 0]) :: []) (k + 1 + 1 + 1 + 1 + 1) w'
def MsP (w : World) (g : Nat) (ca : Option Addr) (n cap p q m : Nat) (e : Ending) (w' : World) : Prop :=
 ∃ (h : MsgH) (l : List Sl) (nl : Nat) (a' : Option Addr) (c' p' : Nat), e = .returned (.agg (msgV h (.slice a' nl c'))) ∧ DK w g ca n cap [] l nl a' c' p' w' ∧ h.x.size ≤ m ∧ nl ≤ m ∧ p' ≤ p + q
theorem drawMsg (w : World) (g : Nat) (ca : Option Addr) (n cap p : Nat) (r : Rc) (pr : RcP) (h : RdA w g ca n cap p) (hp : p ≤ 600000000) (hc : ∀ x, ca = some x → x.block < w.heap.size) (hr : VR r) :
  Calls Try.prog 61 #[.pointer (some ⟨g, 0, none⟩), .agg (rcV r pr)] w (MsP w g ca n cap p 60 5) := by
 have HP := hid hp;have HC := hid hc;have VRr := hid hr
 have B0L := hid (show 0 ≤ r.ball by
  cases hl : r.lead
  ·cases ht : r.tr
   ·rw [(hr.cl hl ht).1]; omega
   have := (hr.tr hl ht).1; omega
  have := (hr.ld hl).1; omega)
 obtain ⟨V, hV⟩ : ∃ V, V = (w.alloc (.cells (rcV r pr) 31)).alloc (.cells #[.int .i64 0, .int .i64 0, .int .i64 0, .int .i64 0, .int .i64 0, .int .i64 0, .string ⟨#[]⟩, .slice none 0 0] 49) := ⟨_, rfl⟩
 have S0 := hid (show RX w g ca n cap ((w.heap.size, 31, rcV r pr) :: (w.heap.size + 1, 49, #[.int .i64 0, .int .i64 0, .int .i64 0, .int .i64 0, .int .i64 0, .int .i64 0, .string ⟨#[]⟩, .slice none 0 0]) :: []) p V by
  rw [hV];have h3 := ((RX.start h).new (rcV r pr) 31).new #[.int .i64 0, .int .i64 0, .int .i64 0, .int .i64 0, .int .i64 0, .int .i64 0, .string ⟨#[]⟩, .slice none 0 0] 49;refine h3.sub fun u hu => ?_
  simp only [List.mem_cons, List.not_mem_nil, or_false] at hu ⊢;rcases hu with rfl | rfl
  ·exact .inr rfl
  exact .inl (by simp))
 clear h hp hc hr;go_enter Try.func61, Try.ntmps61;go_wp2_with fail;rw [← hV];clear hV;have hK0 : BkR w.heap.size (rcV r pr) V := ⟨(S0.out.x _ (.head _)).1⟩
 refine wp_region_held_drew (S := BkR w.heap.size (rcV r pr)) (by kernel_rfl) ⟨Blk.drew hK0.k⟩ (fun hHeld => ?_);simp only [qz, Nat.reduceAdd];obtain ⟨w1, hw1⟩ : ∃ u, u = V.drew := ⟨_, rfl⟩
 have S1 := hid (S0.out.ext (show Below V.heap.size V w1 by rw [hw1]; exact (Below.refl _ _).drew));rw [← hw1] at hHeld ⊢;clear hw1 hK0 S0;refine planH.go [0, 1, 2, 3] ?_;iterate 4 (apply planH.take (at_lit rfl) (by kernel_rfl) (by rfl) (fun _ _ _ h => h) hHeld; (· intro w9 hSw; have hq := hSw.k.cell; clear hSw; go_simp; try with_reducible rfl); try simp only [qq])
 refine planH.fin ?_;refine rdH 4 (by kernel_rfl) (at_lit rfl) (fun K hK => ?_);go_simp;refine (pickW w1 g ca n cap p 4 S1.out.a (by have := HP.out; omega) (by omega) (by omega)).mono ?_;rintro e w2 ⟨v, rfl, hv, hu, ha⟩;have S2 := hid (S1.out.pick hu ha);clear hu ha S1;go_wp2_with fail;refine hK.out _ _ ⟨(S2.out.x _ (.head _)).1⟩ ?_;clear hK K hHeld;intro hHeld;try simp only [qq]
 have f5 : IntKind.i64.wrap (r.dp + (v : Int)) = r.dp + (v : Int) := by have := VRr.out.d.p0; have := VRr.out.d.p1; go_arith
 have f6 : IntKind.i64.wrap (r.dp + (v : Int) - 1) = r.dp + (v : Int) - 1 := by have := VRr.out.d.p0; have := VRr.out.d.p1; go_arith
 refine planH.go [5, 6, 7] ?_;iterate 3 (apply planH.take (at_lit rfl) (by kernel_rfl) (by rfl) (fun _ _ _ h => h) hHeld; (· intro w9 hSw; have hq := hSw.k.cell; clear hSw; go_simp; try with_reducible rfl); try simp only [qq])
 refine planH.fin ?_;clear f5 f6;refine wpAnyH_done (by kernel_rfl) ?_ _;clear hHeld;obtain ⟨b0, hb0⟩ : ∃ b0 : Int, b0 = r.dp + (v : Int) - 1 := ⟨_, rfl⟩
 rw [← hb0];clear hb0;go_wp2_with fail;refine (pickW w2 g ca n cap (p + 1) 3 S2.out.a (by have := HP.out; omega) (by omega) (by omega)).mono ?_;rintro e w3 ⟨u, rfl, hu3, hu, ha⟩;have S3 := hid (S2.out.pick hu ha);clear hu ha S2
 go_upto_if 16 with fail
 go_cut [5] from 16 to 18 (fun s5 wx => wx = w3 ∧ ∃ (b1 : Int), s5 = .int .i64 b1)
 case first =>
  by_cases hu0 : u = 0
  ·subst hu0;have cR := (S3.out.x _ (.head _)).1.cell;go_wp2_with fail
   go_meet
   case rel => exact ⟨rfl, r.ball, rfl⟩
  have eu : ¬ (u : Int) = 0 := by omega
  have uu : ((u : Int) == 0) = false := by simpa using eu
  go_wp2_with fail
  go_meet
  case rel => exact ⟨rfl, b0, rfl⟩
 case rest =>
 obtain ⟨hwc, b1, rfl⟩ := hcut;subst wc
 go_upto_if 20 with fail
 go_cut [5] from 19 to 21 (fun s5 wx => wx = w3 ∧ ∃ (b2 : Int), s5 = .int .i64 b2)
 case first =>
  by_cases hn : b1 < 0
  ·have un : decide (b1 < 0) = true := decide_eq_true hn;go_wp2_with fail
   go_meet
   case rel => exact ⟨rfl, 0, rfl⟩
  have un : decide (b1 < 0) = false := decide_eq_false hn;go_wp2_with fail
  go_meet
  case rel => exact ⟨rfl, b1, rfl⟩
 case rest =>
 obtain ⟨hwc, bb, rfl⟩ := hcut;subst wc;obtain ⟨w4, hw4⟩ : ∃ v : World, v = w3 := ⟨_, rfl⟩
 subst hw4;obtain ⟨k4, hk4⟩ : ∃ k, k = p + 1 + 1 := ⟨_, rfl⟩
 have S4 := S3;rw [← hk4] at S4;have HK4 := hid hk4;clear S3 hk4;go_wp2_with fail;refine wp_gen (FinM w g ca n cap r pr k4) (fun _ _ dst _ _ h => by cases dst <;> exact h) (fun QQ hP KF => ?_) ?_
 ·have hK0 : BkR w.heap.size (rcV r pr) w4 := ⟨(S4.out.x _ (.head _)).1⟩
  refine wp_region_last (S := BkR w.heap.size (rcV r pr)) 29 (by kernel_rfl) ⟨Blk.drew hK0.k⟩ (fun hHeld => ?_);simp only [qz, Nat.reduceAdd];obtain ⟨v0, hv0⟩ : ∃ u, u = w4.drew := ⟨_, rfl⟩
  have X0 := hid (S4.out.ext (show Below w4.heap.size w4 v0 by rw [hv0]; exact (Below.refl _ _).drew));rw [← hv0] at hHeld ⊢;clear hv0 hK0;have f16 : IntKind.i64.wrap ((r.ds.length : Int) + 3) = (r.ds.length : Int) + 3 := by have := VRr.out.d.lk.n; go_arith
  refine wpLast_take2 (i := 0) (v := ?_) (at_lit rfl) (by kernel_rfl) (by kernel_rfl) (by kernel_rfl) (by kernel_rfl) (fun c a w h => hP c a _ _ w h) (Or.inl ⟨by rfl, ?_⟩) hHeld ?_;rotate_left
  ·(intro w9 hSw; have hq := hSw.k.cell; clear hSw; go_simp; try with_reducible rfl)
  try simp only [qq]
  refine wpLast_take2 (i := 3) (v := ?_) (at_lit rfl) (by kernel_rfl) (by kernel_rfl) (by kernel_rfl) (by kernel_rfl) (fun c a w h => hP c a _ _ w h) (Or.inl ⟨by rfl, ?_⟩) hHeld ?_;rotate_left
  ·(intro w9 hSw; have hq := hSw.k.cell; clear hSw; go_simp; try with_reducible rfl)
  try simp only [qq]
  refine wpLast_take2 (i := 4) (v := ?_) (at_lit rfl) (by kernel_rfl) (by kernel_rfl) (by kernel_rfl) (by kernel_rfl) (fun c a w h => hP c a _ _ w h) (Or.inl ⟨by rfl, ?_⟩) hHeld ?_;rotate_left
  ·(intro w9 hSw; have hq := hSw.k.cell; clear hSw; go_simp; try with_reducible rfl)
  try simp only [qq]
  refine wpLast_take2 (i := 5) (v := ?_) (at_lit rfl) (by kernel_rfl) (by kernel_rfl) (by kernel_rfl) (by kernel_rfl) (fun c a w h => hP c a _ _ w h) (Or.inl ⟨by rfl, ?_⟩) hHeld ?_;rotate_left
  ·(intro w9 hSw; have hq := hSw.k.cell; clear hSw; go_simp; try with_reducible rfl)
  try simp only [qq]
  refine wpLast_take2 (i := 8) (v := ?_) (at_lit rfl) (by kernel_rfl) (by kernel_rfl) (by kernel_rfl) (by kernel_rfl) (fun c a w h => hP c a _ _ w h) (Or.inl ⟨by rfl, ?_⟩) hHeld ?_;rotate_left
  ·(intro w9 hSw; have hq := hSw.k.cell; clear hSw; go_simp; try with_reducible rfl)
  try simp only [qq]
  refine wpLast_take2 (i := 9) (v := ?_) (at_lit rfl) (by kernel_rfl) (by kernel_rfl) (by kernel_rfl) (by kernel_rfl) (fun c a w h => hP c a _ _ w h) (Or.inl ⟨by rfl, ?_⟩) hHeld ?_;rotate_left
  ·(intro w9 hSw; have hq := hSw.k.cell; clear hSw; go_simp; try with_reducible rfl)
  try simp only [qq]
  refine wpLast_take2 (i := 10) (v := ?_) (at_lit rfl) (by kernel_rfl) (by kernel_rfl) (by kernel_rfl) (by kernel_rfl) (fun c a w h => hP c a _ _ w h) (Or.inl ⟨by rfl, ?_⟩) hHeld ?_;rotate_left
  ·(intro w9 hSw; have hq := hSw.k.cell; clear hSw; go_simp; try with_reducible rfl)
  try simp only [qq]
  refine wpLast_take2 (i := 11) (v := ?_) (at_lit rfl) (by kernel_rfl) (by kernel_rfl) (by kernel_rfl) (by kernel_rfl) (fun c a w h => hP c a _ _ w h) (Or.inl ⟨by rfl, ?_⟩) hHeld ?_;rotate_left
  ·(intro w9 hSw; have hq := hSw.k.cell; clear hSw; go_simp; try with_reducible rfl)
  try simp only [qq]
  refine wpLast_take2 (i := 12) (v := ?_) (at_lit rfl) (by kernel_rfl) (by kernel_rfl) (by kernel_rfl) (by kernel_rfl) (fun c a w h => hP c a _ _ w h) (Or.inl ⟨by rfl, ?_⟩) hHeld ?_;rotate_left
  ·(intro w9 hSw; have hq := hSw.k.cell; clear hSw; go_simp; try with_reducible rfl)
  try simp only [qq]
  refine wpLast_take2 (i := 13) (v := ?_) (at_lit rfl) (by kernel_rfl) (by kernel_rfl) (by kernel_rfl) (by kernel_rfl) (fun c a w h => hP c a _ _ w h) (Or.inl ⟨by rfl, ?_⟩) hHeld ?_;rotate_left
  ·(intro w9 hSw; have hq := hSw.k.cell; clear hSw; go_simp; try with_reducible rfl)
  try simp only [qq]
  refine wpLast_take2 (i := 14) (v := ?_) (at_lit rfl) (by kernel_rfl) (by kernel_rfl) (by kernel_rfl) (by kernel_rfl) (fun c a w h => hP c a _ _ w h) (Or.inl ⟨by rfl, ?_⟩) hHeld ?_;rotate_left
  ·(intro w9 hSw; have hq := hSw.k.cell; clear hSw; go_simp; try with_reducible rfl)
  try simp only [qq]
  refine wpLast_take2 (i := 15) (v := ?_) (at_lit rfl) (by kernel_rfl) (by kernel_rfl) (by kernel_rfl) (by kernel_rfl) (fun c a w h => hP c a _ _ w h) (Or.inl ⟨by rfl, ?_⟩) hHeld ?_;rotate_left
  ·(intro w9 hSw; have hq := hSw.k.cell; clear hSw; go_simp; try with_reducible rfl)
  try simp only [qq]
  refine wpLast_take2 (i := 16) (v := ?_) (at_lit rfl) (by kernel_rfl) (by kernel_rfl) (by kernel_rfl) (by kernel_rfl) (fun c a w h => hP c a _ _ w h) (Or.inl ⟨by rfl, ?_⟩) hHeld ?_;rotate_left
  ·(intro w9 hSw; have hq := hSw.k.cell; clear hSw; go_simp; try with_reducible rfl)
  try simp only [qq]
  refine wpLast_take2 (i := 18) (v := ?_) (at_lit rfl) (by kernel_rfl) (by kernel_rfl) (by kernel_rfl) (by kernel_rfl) (fun c a w h => hP c a _ _ w h) (Or.inl ⟨by rfl, ?_⟩) hHeld ?_;rotate_left
  ·(intro w9 hSw; have hq := hSw.k.cell; clear hSw; go_simp; try with_reducible rfl)
  try simp only [qq]
  refine wpLast_take2 (i := 19) (v := ?_) (at_lit rfl) (by kernel_rfl) (by kernel_rfl) (by kernel_rfl) (by kernel_rfl) (fun c a w h => hP c a _ _ w h) (Or.inl ⟨by rfl, ?_⟩) hHeld ?_;rotate_left
  ·(intro w9 hSw; have hq := hSw.k.cell; clear hSw; go_simp; try with_reducible rfl)
  try simp only [qq]
  refine wpLast_take2 (i := 20) (v := ?_) (at_lit rfl) (by kernel_rfl) (by kernel_rfl) (by kernel_rfl) (by kernel_rfl) (fun c a w h => hP c a _ _ w h) (Or.inl ⟨by rfl, ?_⟩) hHeld ?_;rotate_left
  ·(intro w9 hSw; have hq := hSw.k.cell; clear hSw; go_simp; try with_reducible rfl)
  try simp only [qq]
  refine wpLast_take2 (i := 21) (v := ?_) (at_lit rfl) (by kernel_rfl) (by kernel_rfl) (by kernel_rfl) (by kernel_rfl) (fun c a w h => hP c a _ _ w h) (Or.inl ⟨by rfl, ?_⟩) hHeld ?_;rotate_left
  ·(intro w9 hSw; have hq := hSw.k.cell; clear hSw; go_simp; try with_reducible rfl)
  try simp only [qq]
  refine wpLast_take2 (i := 22) (v := ?_) (at_lit rfl) (by kernel_rfl) (by kernel_rfl) (by kernel_rfl) (by kernel_rfl) (fun c a w h => hP c a _ _ w h) (Or.inl ⟨by rfl, ?_⟩) hHeld ?_;rotate_left
  ·(intro w9 hSw; have hq := hSw.k.cell; clear hSw; go_simp; try with_reducible rfl)
  try simp only [qq]
  refine wpLast_take2 (i := 23) (v := ?_) (at_lit rfl) (by kernel_rfl) (by kernel_rfl) (by kernel_rfl) (by kernel_rfl) (fun c a w h => hP c a _ _ w h) (Or.inl ⟨by rfl, ?_⟩) hHeld ?_;rotate_left
  ·(intro w9 hSw; have hq := hSw.k.cell; clear hSw; go_simp; try with_reducible rfl)
  try simp only [qq]
  refine wpLast_take2 (i := 25) (v := ?_) (at_lit rfl) (by kernel_rfl) (by kernel_rfl) (by kernel_rfl) (by kernel_rfl) (fun c a w h => hP c a _ _ w h) (Or.inl ⟨by rfl, ?_⟩) hHeld ?_;rotate_left
  ·(intro w9 hSw; have hq := hSw.k.cell; clear hSw; go_simp; try with_reducible rfl)
  try simp only [qq]
  clear f16;refine wpLast_ready (rs := [1, 28]) (by kernel_rfl) (by simp) ?_;refine AllLast.cons (at_lit rfl) (fun K hK => ?_) (AllLast.cons (at_lit rfl) (fun K hK => ?_) AllLast.nil)
  ·go_simp;refine (pickW v0 g ca n cap (k4) 9 X0.out.a (by have := HK4.out; have := HP.out; omega) (by omega) (by omega)).mono ?_;rintro e v1 ⟨b1, rfl, hb1, hu, ha⟩;have X1 := hid (X0.out.pick hu ha);clear hu ha X0;go_wp2_with fail;refine hK.out _ _ ⟨(X1.out.x _ (.head _)).1⟩ ?_;clear hK K hHeld;intro hHeld;try simp only [qq]
   have f1 : IntKind.i64.wrap (1 + (b1 : Int)) = 1 + (b1 : Int) := by go_arith
   refine wpLast_take2 (i := 2) (v := ?_) (at_lit rfl) (by kernel_rfl) (by kernel_rfl) (by kernel_rfl) (by kernel_rfl) (fun c a w h => hP c a _ _ w h) (Or.inl ⟨by rfl, ?_⟩) hHeld ?_;rotate_left
   ·(intro w9 hSw; have hq := hSw.k.cell; clear hSw; go_simp; try with_reducible rfl)
   try simp only [qq]
   clear f1;refine wpLast_ready (rs := [6, 28]) (by kernel_rfl) (by simp) ?_;refine AllLast.cons (at_lit rfl) (fun K hK => ?_) (AllLast.cons (at_lit rfl) (fun K hK => ?_) AllLast.nil)
   ·go_simp;refine (pickW v1 g ca n cap (k4 + 1) r.of_ X1.out.a (by have := HK4.out; have := HP.out; omega) (by have := VRr.out.o5; omega) VRr.out.o1).mono ?_;rintro e v2 ⟨b6, rfl, hb6, hu, ha⟩;have X2 := hid (X1.out.pick hu ha);clear hu ha X1;go_wp2_with fail;refine hK.out _ _ ⟨(X2.out.x _ (.head _)).1⟩ ?_;clear hK K hHeld;intro hHeld;try simp only [qq]
    have f6 : IntKind.i64.wrap (1 + (b6 : Int)) = 1 + (b6 : Int) := by have := VRr.out.o5; go_arith
    refine wpLast_take2 (i := 7) (v := ?_) (at_lit rfl) (by kernel_rfl) (by kernel_rfl) (by kernel_rfl) (by kernel_rfl) (fun c a w h => hP c a _ _ w h) (Or.inl ⟨by rfl, ?_⟩) hHeld ?_;rotate_left
    ·(intro w9 hSw; have hq := hSw.k.cell; clear hSw; go_simp; try with_reducible rfl)
    try simp only [qq]
    clear f6;refine wpLast_ready (rs := [17, 28]) (by kernel_rfl) (by simp) ?_;refine AllLast.cons (at_lit rfl) (fun K hK => ?_) (AllLast.cons (at_lit rfl) (fun K hK => ?_) AllLast.nil)
    ·go_simp;refine (pickW v2 g ca n cap (k4 + 1 + 1) ((r.ds.length : Int) + 3) X2.out.a (by have := HK4.out; have := HP.out; omega) (by have := VRr.out.d.lk.n; omega) (by omega)).mono ?_;rintro e v3 ⟨b17, rfl, hb17, hu, ha⟩;have X3 := hid (X2.out.pick hu ha);clear hu ha X2;go_wp2_with fail;refine hK.out _ _ ⟨(X3.out.x _ (.head _)).1⟩ ?_;clear hK K hHeld;intro hHeld;try simp only [qq]
     refine wpLast_ready (rs := [24, 28]) (by kernel_rfl) (by simp) ?_;refine AllLast.cons (at_lit rfl) (fun K hK => ?_) (AllLast.cons (at_lit rfl) (fun K hK => ?_) AllLast.nil)
     ·go_simp;refine (pickW v3 g ca n cap (k4 + 1 + 1 + 1) ((r.ds.length : Int) + 3) X3.out.a (by have := HK4.out; have := HP.out; omega) (by have := VRr.out.d.lk.n; omega) (by omega)).mono ?_;rintro e v4 ⟨b24, rfl, hb24, hu, ha⟩;have X4 := hid (X3.out.pick hu ha);clear hu ha X3;go_wp2_with fail;refine hK.out _ _ ⟨(X4.out.x _ (.head _)).1⟩ ?_;clear hK K hHeld;intro hHeld;try simp only [qq]
      refine wpLast_ready (rs := [26, 28]) (by kernel_rfl) (by simp) ?_;refine AllLast.cons (at_lit rfl) (fun K hK => ?_) (AllLast.cons (at_lit rfl) (fun K hK => ?_) AllLast.nil)
      ·go_simp;refine (textW v4 g ca n cap (k4 + 1 + 1 + 1 + 1) X4.out.a (by have := HK4.out; have := HP.out; omega)).mono ?_;rintro e v5 ⟨tx, rfl, htx, hw, ha⟩;have X5 := hid (X4.out.rd hw ha);have TX := hid (show tx.size ≤ 2 by omega);clear hw ha X4 htx;go_wp2_with fail;refine hK.out _ _ ⟨(X5.out.x _ (.head _)).1⟩ ?_;clear hK K hHeld;intro hHeld;try simp only [qq]
       refine wpLast_take2 (i := 27) (v := ?_) (at_lit rfl) (by kernel_rfl) (by kernel_rfl) (by kernel_rfl) (by kernel_rfl) (fun c a w h => hP c a _ _ w h) (Or.inl ⟨by rfl, ?_⟩) hHeld ?_;rotate_left
       ·(intro w9 hSw; have hq := hSw.k.cell; clear hSw; go_simp; try with_reducible rfl)
       try simp only [qq]
       refine rdL 28 (by kernel_rfl) (at_lit rfl) (fun K hK => ?_);go_simp;obtain ⟨v6, hv6⟩ : ∃ u, u = v5.alloc (.cells #[.int .i64 0, .int .i64 0, .int .i64 0, .int .i64 0, .int .i64 0, .int .i64 0, .string ⟨#[]⟩, .slice none 0 0] 49) := ⟨_, rfl⟩
       have X6 := hid (show RX w g ca n cap ((v5.heap.size, 49, #[.int .i64 0, .int .i64 0, .int .i64 0, .int .i64 0, .int .i64 0, .int .i64 0, .string ⟨#[]⟩, .slice none 0 0]) :: (w.heap.size, 31, rcV r pr) :: (w.heap.size + 1, 49, #[.int .i64 0, .int .i64 0, .int .i64 0, .int .i64 0, .int .i64 0, .int .i64 0, .string ⟨#[]⟩, .slice none 0 0]) :: []) (k4 + 1 + 1 + 1 + 1 + 1) v6 by rw [hv6]; exact X5.out.new _ _);have GM := hid (show v5.heap.size ≠ w.heap.size ∧ v5.heap.size ≠ w.heap.size + 1 from ⟨Nat.ne_of_gt (X5.out.x _ (.head _)).1.lt, Nat.ne_of_gt (X5.out.x _ (.tail _ (.head _))).1.lt⟩);rw [← hv6];clear hv6 X5;refine hK.out _ _ ⟨(X6.out.x _ (.tail _ (.head _))).1⟩ ?_;clear hK K hHeld;intro hHeld;try simp only [qq]
       refine wpLast_end (by kernel_rfl) (at_lit rfl) (by kernel_rfl) (fun K hK => ?_);rw [if_pos (by rfl)];refine wp_store_row 49 _ _ rfl (v5.heap.size) (msgV ⟨1 + (b1 : Int), 1 + (b6 : Int), r.num, bb, (b17 : Int), (b24 : Int), tx⟩ (.slice none 0 0)) rfl rfl 49 #[.int .i64 0, .int .i64 0, .int .i64 0, .int .i64 0, .int .i64 0, .int .i64 0, .string ⟨#[]⟩, .slice none 0 0] (X6.out.x _ (.head _)).1 (by kernel_rfl) rfl (by simp [Value.oneCell']) ?_;refine hK.out _ _ ?_;refine KF.out _ _ ⟨v5.heap.size, ⟨1 + (b1 : Int), 1 + (b6 : Int), r.num, bb, (b17 : Int), (b24 : Int), tx⟩, ?_, ?_, ?_, ?_, ?_, ?_, ?_, ?_, ?_, ?_, ?_, ?_, ?_, ?_, ?_, ?_, ?_, ?_, ?_, ?_, ?_, ?_, ?_, ?_, ?_, ?_, ?_, ?_, ?_, TX.out, GM.out, ⟨by show (1 : Int) ≤ 1 + (b1 : Int); omega, by show 1 + (b1 : Int) ≤ 9; omega⟩, X6.out.top HC.out (fun c hc => setRow_other _ _ _ _ hc) (setRow_heap _ _ _ _ _ _ (X6.out.x _ (.head _)).1) (below_setRow' (Below.refl _ _) (X6.out.x _ (.head _)).2 _) (fun u hu => ?_)⟩;rotate_left 28
       ·try simp only [qq]
        rfl
       simp only [List.mem_cons, List.not_mem_nil, or_false] at hu;rcases hu with rfl | rfl
       ·exact fun e => GM.out.1 e.symm
       exact fun e => GM.out.2 e.symm
      go_simp;obtain ⟨v7, hv7⟩ : ∃ u, u = v4.alloc (.cells #[.int .i64 0, .int .i64 0, .int .i64 0, .int .i64 0, .int .i64 0, .int .i64 0, .string ⟨#[]⟩, .slice none 0 0] 49) := ⟨_, rfl⟩
      have X7 := hid (show RX w g ca n cap ((v4.heap.size, 49, #[.int .i64 0, .int .i64 0, .int .i64 0, .int .i64 0, .int .i64 0, .int .i64 0, .string ⟨#[]⟩, .slice none 0 0]) :: (w.heap.size, 31, rcV r pr) :: (w.heap.size + 1, 49, #[.int .i64 0, .int .i64 0, .int .i64 0, .int .i64 0, .int .i64 0, .int .i64 0, .string ⟨#[]⟩, .slice none 0 0]) :: []) (k4 + 1 + 1 + 1 + 1) v7 by rw [hv7]; exact X4.out.new _ _);have GM := hid (show v4.heap.size ≠ w.heap.size ∧ v4.heap.size ≠ w.heap.size + 1 from ⟨Nat.ne_of_gt (X4.out.x _ (.head _)).1.lt, Nat.ne_of_gt (X4.out.x _ (.tail _ (.head _))).1.lt⟩);rw [← hv7];clear hv7 X4;refine hK.out _ _ ⟨(X7.out.x _ (.tail _ (.head _))).1⟩ ?_;clear hK K hHeld;intro hHeld;try simp only [qq]
      refine rdL 26 (by kernel_rfl) (at_lit rfl) (fun K hK => ?_);go_simp;refine (textW v7 g ca n cap (k4 + 1 + 1 + 1 + 1) X7.out.a (by have := HK4.out; have := HP.out; omega)).mono ?_;rintro e v8 ⟨tx, rfl, htx, hw, ha⟩;have X8 := hid (X7.out.rd hw ha);have TX := hid (show tx.size ≤ 2 by omega);clear hw ha X7 htx;go_wp2_with fail;refine hK.out _ _ ⟨(X8.out.x _ (.tail _ (.head _))).1⟩ ?_;clear hK K hHeld;intro hHeld;try simp only [qq]
      refine wpLast_take2 (i := 27) (v := ?_) (at_lit rfl) (by kernel_rfl) (by kernel_rfl) (by kernel_rfl) (by kernel_rfl) (fun c a w h => hP c a _ _ w h) (Or.inl ⟨by rfl, ?_⟩) hHeld ?_;rotate_left
      ·(intro w9 hSw; have hq := hSw.k.cell; clear hSw; go_simp; try with_reducible rfl)
      try simp only [qq]
      refine wpLast_end (by kernel_rfl) (at_lit rfl) (by kernel_rfl) (fun K hK => ?_);rw [if_pos (by rfl)];refine wp_store_row 49 _ _ rfl (v4.heap.size) (msgV ⟨1 + (b1 : Int), 1 + (b6 : Int), r.num, bb, (b17 : Int), (b24 : Int), tx⟩ (.slice none 0 0)) rfl rfl 49 #[.int .i64 0, .int .i64 0, .int .i64 0, .int .i64 0, .int .i64 0, .int .i64 0, .string ⟨#[]⟩, .slice none 0 0] (X8.out.x _ (.head _)).1 (by kernel_rfl) rfl (by simp [Value.oneCell']) ?_;refine hK.out _ _ ?_;refine KF.out _ _ ⟨v4.heap.size, ⟨1 + (b1 : Int), 1 + (b6 : Int), r.num, bb, (b17 : Int), (b24 : Int), tx⟩, ?_, ?_, ?_, ?_, ?_, ?_, ?_, ?_, ?_, ?_, ?_, ?_, ?_, ?_, ?_, ?_, ?_, ?_, ?_, ?_, ?_, ?_, ?_, ?_, ?_, ?_, ?_, ?_, ?_, TX.out, GM.out, ⟨by show (1 : Int) ≤ 1 + (b1 : Int); omega, by show 1 + (b1 : Int) ≤ 9; omega⟩, X8.out.top HC.out (fun c hc => setRow_other _ _ _ _ hc) (setRow_heap _ _ _ _ _ _ (X8.out.x _ (.head _)).1) (below_setRow' (Below.refl _ _) (X8.out.x _ (.head _)).2 _) (fun u hu => ?_)⟩;rotate_left 28
      ·try simp only [qq]
       rfl
      simp only [List.mem_cons, List.not_mem_nil, or_false] at hu;rcases hu with rfl | rfl
      ·exact fun e => GM.out.1 e.symm
      exact fun e => GM.out.2 e.symm
     go_simp;obtain ⟨v9, hv9⟩ : ∃ u, u = v3.alloc (.cells #[.int .i64 0, .int .i64 0, .int .i64 0, .int .i64 0, .int .i64 0, .int .i64 0, .string ⟨#[]⟩, .slice none 0 0] 49) := ⟨_, rfl⟩
     have X9 := hid (show RX w g ca n cap ((v3.heap.size, 49, #[.int .i64 0, .int .i64 0, .int .i64 0, .int .i64 0, .int .i64 0, .int .i64 0, .string ⟨#[]⟩, .slice none 0 0]) :: (w.heap.size, 31, rcV r pr) :: (w.heap.size + 1, 49, #[.int .i64 0, .int .i64 0, .int .i64 0, .int .i64 0, .int .i64 0, .int .i64 0, .string ⟨#[]⟩, .slice none 0 0]) :: []) (k4 + 1 + 1 + 1) v9 by rw [hv9]; exact X3.out.new _ _);have GM := hid (show v3.heap.size ≠ w.heap.size ∧ v3.heap.size ≠ w.heap.size + 1 from ⟨Nat.ne_of_gt (X3.out.x _ (.head _)).1.lt, Nat.ne_of_gt (X3.out.x _ (.tail _ (.head _))).1.lt⟩);rw [← hv9];clear hv9 X3;refine hK.out _ _ ⟨(X9.out.x _ (.tail _ (.head _))).1⟩ ?_;clear hK K hHeld;intro hHeld;try simp only [qq]
     refine rdL 24 (by kernel_rfl) (at_lit rfl) (fun K hK => ?_);go_simp;refine (pickW v9 g ca n cap (k4 + 1 + 1 + 1) ((r.ds.length : Int) + 3) X9.out.a (by have := HK4.out; have := HP.out; omega) (by have := VRr.out.d.lk.n; omega) (by omega)).mono ?_;rintro e v10 ⟨b24, rfl, hb24, hu, ha⟩;have X10 := hid (X9.out.pick hu ha);clear hu ha X9;go_wp2_with fail;refine hK.out _ _ ⟨(X10.out.x _ (.tail _ (.head _))).1⟩ ?_;clear hK K hHeld;intro hHeld;try simp only [qq]
     refine rdL 26 (by kernel_rfl) (at_lit rfl) (fun K hK => ?_);go_simp;refine (textW v10 g ca n cap (k4 + 1 + 1 + 1 + 1) X10.out.a (by have := HK4.out; have := HP.out; omega)).mono ?_;rintro e v11 ⟨tx, rfl, htx, hw, ha⟩;have X11 := hid (X10.out.rd hw ha);have TX := hid (show tx.size ≤ 2 by omega);clear hw ha X10 htx;go_wp2_with fail;refine hK.out _ _ ⟨(X11.out.x _ (.tail _ (.head _))).1⟩ ?_;clear hK K hHeld;intro hHeld;try simp only [qq]
     refine wpLast_take2 (i := 27) (v := ?_) (at_lit rfl) (by kernel_rfl) (by kernel_rfl) (by kernel_rfl) (by kernel_rfl) (fun c a w h => hP c a _ _ w h) (Or.inl ⟨by rfl, ?_⟩) hHeld ?_;rotate_left
     ·(intro w9 hSw; have hq := hSw.k.cell; clear hSw; go_simp; try with_reducible rfl)
     try simp only [qq]
     refine wpLast_end (by kernel_rfl) (at_lit rfl) (by kernel_rfl) (fun K hK => ?_);rw [if_pos (by rfl)];refine wp_store_row 49 _ _ rfl (v3.heap.size) (msgV ⟨1 + (b1 : Int), 1 + (b6 : Int), r.num, bb, (b17 : Int), (b24 : Int), tx⟩ (.slice none 0 0)) rfl rfl 49 #[.int .i64 0, .int .i64 0, .int .i64 0, .int .i64 0, .int .i64 0, .int .i64 0, .string ⟨#[]⟩, .slice none 0 0] (X11.out.x _ (.head _)).1 (by kernel_rfl) rfl (by simp [Value.oneCell']) ?_;refine hK.out _ _ ?_;refine KF.out _ _ ⟨v3.heap.size, ⟨1 + (b1 : Int), 1 + (b6 : Int), r.num, bb, (b17 : Int), (b24 : Int), tx⟩, ?_, ?_, ?_, ?_, ?_, ?_, ?_, ?_, ?_, ?_, ?_, ?_, ?_, ?_, ?_, ?_, ?_, ?_, ?_, ?_, ?_, ?_, ?_, ?_, ?_, ?_, ?_, ?_, ?_, TX.out, GM.out, ⟨by show (1 : Int) ≤ 1 + (b1 : Int); omega, by show 1 + (b1 : Int) ≤ 9; omega⟩, X11.out.top HC.out (fun c hc => setRow_other _ _ _ _ hc) (setRow_heap _ _ _ _ _ _ (X11.out.x _ (.head _)).1) (below_setRow' (Below.refl _ _) (X11.out.x _ (.head _)).2 _) (fun u hu => ?_)⟩;rotate_left 28
     ·try simp only [qq]
      rfl
     simp only [List.mem_cons, List.not_mem_nil, or_false] at hu;rcases hu with rfl | rfl
     ·exact fun e => GM.out.1 e.symm
     exact fun e => GM.out.2 e.symm
    go_simp;obtain ⟨v12, hv12⟩ : ∃ u, u = v2.alloc (.cells #[.int .i64 0, .int .i64 0, .int .i64 0, .int .i64 0, .int .i64 0, .int .i64 0, .string ⟨#[]⟩, .slice none 0 0] 49) := ⟨_, rfl⟩
    have X12 := hid (show RX w g ca n cap ((v2.heap.size, 49, #[.int .i64 0, .int .i64 0, .int .i64 0, .int .i64 0, .int .i64 0, .int .i64 0, .string ⟨#[]⟩, .slice none 0 0]) :: (w.heap.size, 31, rcV r pr) :: (w.heap.size + 1, 49, #[.int .i64 0, .int .i64 0, .int .i64 0, .int .i64 0, .int .i64 0, .int .i64 0, .string ⟨#[]⟩, .slice none 0 0]) :: []) (k4 + 1 + 1) v12 by rw [hv12]; exact X2.out.new _ _);have GM := hid (show v2.heap.size ≠ w.heap.size ∧ v2.heap.size ≠ w.heap.size + 1 from ⟨Nat.ne_of_gt (X2.out.x _ (.head _)).1.lt, Nat.ne_of_gt (X2.out.x _ (.tail _ (.head _))).1.lt⟩);rw [← hv12];clear hv12 X2;refine hK.out _ _ ⟨(X12.out.x _ (.tail _ (.head _))).1⟩ ?_;clear hK K hHeld;intro hHeld;try simp only [qq]
    refine rdL 17 (by kernel_rfl) (at_lit rfl) (fun K hK => ?_);go_simp;refine (pickW v12 g ca n cap (k4 + 1 + 1) ((r.ds.length : Int) + 3) X12.out.a (by have := HK4.out; have := HP.out; omega) (by have := VRr.out.d.lk.n; omega) (by omega)).mono ?_;rintro e v13 ⟨b17, rfl, hb17, hu, ha⟩;have X13 := hid (X12.out.pick hu ha);clear hu ha X12;go_wp2_with fail;refine hK.out _ _ ⟨(X13.out.x _ (.tail _ (.head _))).1⟩ ?_;clear hK K hHeld;intro hHeld;try simp only [qq]
    refine rdL 24 (by kernel_rfl) (at_lit rfl) (fun K hK => ?_);go_simp;refine (pickW v13 g ca n cap (k4 + 1 + 1 + 1) ((r.ds.length : Int) + 3) X13.out.a (by have := HK4.out; have := HP.out; omega) (by have := VRr.out.d.lk.n; omega) (by omega)).mono ?_;rintro e v14 ⟨b24, rfl, hb24, hu, ha⟩;have X14 := hid (X13.out.pick hu ha);clear hu ha X13;go_wp2_with fail;refine hK.out _ _ ⟨(X14.out.x _ (.tail _ (.head _))).1⟩ ?_;clear hK K hHeld;intro hHeld;try simp only [qq]
    refine rdL 26 (by kernel_rfl) (at_lit rfl) (fun K hK => ?_);go_simp;refine (textW v14 g ca n cap (k4 + 1 + 1 + 1 + 1) X14.out.a (by have := HK4.out; have := HP.out; omega)).mono ?_;rintro e v15 ⟨tx, rfl, htx, hw, ha⟩;have X15 := hid (X14.out.rd hw ha);have TX := hid (show tx.size ≤ 2 by omega);clear hw ha X14 htx;go_wp2_with fail;refine hK.out _ _ ⟨(X15.out.x _ (.tail _ (.head _))).1⟩ ?_;clear hK K hHeld;intro hHeld;try simp only [qq]
    refine wpLast_take2 (i := 27) (v := ?_) (at_lit rfl) (by kernel_rfl) (by kernel_rfl) (by kernel_rfl) (by kernel_rfl) (fun c a w h => hP c a _ _ w h) (Or.inl ⟨by rfl, ?_⟩) hHeld ?_;rotate_left
    ·(intro w9 hSw; have hq := hSw.k.cell; clear hSw; go_simp; try with_reducible rfl)
    try simp only [qq]
    refine wpLast_end (by kernel_rfl) (at_lit rfl) (by kernel_rfl) (fun K hK => ?_);rw [if_pos (by rfl)];refine wp_store_row 49 _ _ rfl (v2.heap.size) (msgV ⟨1 + (b1 : Int), 1 + (b6 : Int), r.num, bb, (b17 : Int), (b24 : Int), tx⟩ (.slice none 0 0)) rfl rfl 49 #[.int .i64 0, .int .i64 0, .int .i64 0, .int .i64 0, .int .i64 0, .int .i64 0, .string ⟨#[]⟩, .slice none 0 0] (X15.out.x _ (.head _)).1 (by kernel_rfl) rfl (by simp [Value.oneCell']) ?_;refine hK.out _ _ ?_;refine KF.out _ _ ⟨v2.heap.size, ⟨1 + (b1 : Int), 1 + (b6 : Int), r.num, bb, (b17 : Int), (b24 : Int), tx⟩, ?_, ?_, ?_, ?_, ?_, ?_, ?_, ?_, ?_, ?_, ?_, ?_, ?_, ?_, ?_, ?_, ?_, ?_, ?_, ?_, ?_, ?_, ?_, ?_, ?_, ?_, ?_, ?_, ?_, TX.out, GM.out, ⟨by show (1 : Int) ≤ 1 + (b1 : Int); omega, by show 1 + (b1 : Int) ≤ 9; omega⟩, X15.out.top HC.out (fun c hc => setRow_other _ _ _ _ hc) (setRow_heap _ _ _ _ _ _ (X15.out.x _ (.head _)).1) (below_setRow' (Below.refl _ _) (X15.out.x _ (.head _)).2 _) (fun u hu => ?_)⟩;rotate_left 28
    ·try simp only [qq]
     rfl
    simp only [List.mem_cons, List.not_mem_nil, or_false] at hu;rcases hu with rfl | rfl
    ·exact fun e => GM.out.1 e.symm
    exact fun e => GM.out.2 e.symm
   go_simp;obtain ⟨v16, hv16⟩ : ∃ u, u = v1.alloc (.cells #[.int .i64 0, .int .i64 0, .int .i64 0, .int .i64 0, .int .i64 0, .int .i64 0, .string ⟨#[]⟩, .slice none 0 0] 49) := ⟨_, rfl⟩
   have X16 := hid (show RX w g ca n cap ((v1.heap.size, 49, #[.int .i64 0, .int .i64 0, .int .i64 0, .int .i64 0, .int .i64 0, .int .i64 0, .string ⟨#[]⟩, .slice none 0 0]) :: (w.heap.size, 31, rcV r pr) :: (w.heap.size + 1, 49, #[.int .i64 0, .int .i64 0, .int .i64 0, .int .i64 0, .int .i64 0, .int .i64 0, .string ⟨#[]⟩, .slice none 0 0]) :: []) (k4 + 1) v16 by rw [hv16]; exact X1.out.new _ _);have GM := hid (show v1.heap.size ≠ w.heap.size ∧ v1.heap.size ≠ w.heap.size + 1 from ⟨Nat.ne_of_gt (X1.out.x _ (.head _)).1.lt, Nat.ne_of_gt (X1.out.x _ (.tail _ (.head _))).1.lt⟩);rw [← hv16];clear hv16 X1;refine hK.out _ _ ⟨(X16.out.x _ (.tail _ (.head _))).1⟩ ?_;clear hK K hHeld;intro hHeld;try simp only [qq]
   refine rdL 6 (by kernel_rfl) (at_lit rfl) (fun K hK => ?_);go_simp;refine (pickW v16 g ca n cap (k4 + 1) r.of_ X16.out.a (by have := HK4.out; have := HP.out; omega) (by have := VRr.out.o5; omega) VRr.out.o1).mono ?_;rintro e v17 ⟨b6, rfl, hb6, hu, ha⟩;have X17 := hid (X16.out.pick hu ha);clear hu ha X16;go_wp2_with fail;refine hK.out _ _ ⟨(X17.out.x _ (.tail _ (.head _))).1⟩ ?_;clear hK K hHeld;intro hHeld;try simp only [qq]
   have f6 : IntKind.i64.wrap (1 + (b6 : Int)) = 1 + (b6 : Int) := by have := VRr.out.o5; go_arith
   refine wpLast_take2 (i := 7) (v := ?_) (at_lit rfl) (by kernel_rfl) (by kernel_rfl) (by kernel_rfl) (by kernel_rfl) (fun c a w h => hP c a _ _ w h) (Or.inl ⟨by rfl, ?_⟩) hHeld ?_;rotate_left
   ·(intro w9 hSw; have hq := hSw.k.cell; clear hSw; go_simp; try with_reducible rfl)
   try simp only [qq]
   clear f6;refine rdL 17 (by kernel_rfl) (at_lit rfl) (fun K hK => ?_);go_simp;refine (pickW v17 g ca n cap (k4 + 1 + 1) ((r.ds.length : Int) + 3) X17.out.a (by have := HK4.out; have := HP.out; omega) (by have := VRr.out.d.lk.n; omega) (by omega)).mono ?_;rintro e v18 ⟨b17, rfl, hb17, hu, ha⟩;have X18 := hid (X17.out.pick hu ha);clear hu ha X17;go_wp2_with fail;refine hK.out _ _ ⟨(X18.out.x _ (.tail _ (.head _))).1⟩ ?_;clear hK K hHeld;intro hHeld;try simp only [qq]
   refine rdL 24 (by kernel_rfl) (at_lit rfl) (fun K hK => ?_);go_simp;refine (pickW v18 g ca n cap (k4 + 1 + 1 + 1) ((r.ds.length : Int) + 3) X18.out.a (by have := HK4.out; have := HP.out; omega) (by have := VRr.out.d.lk.n; omega) (by omega)).mono ?_;rintro e v19 ⟨b24, rfl, hb24, hu, ha⟩;have X19 := hid (X18.out.pick hu ha);clear hu ha X18;go_wp2_with fail;refine hK.out _ _ ⟨(X19.out.x _ (.tail _ (.head _))).1⟩ ?_;clear hK K hHeld;intro hHeld;try simp only [qq]
   refine rdL 26 (by kernel_rfl) (at_lit rfl) (fun K hK => ?_);go_simp;refine (textW v19 g ca n cap (k4 + 1 + 1 + 1 + 1) X19.out.a (by have := HK4.out; have := HP.out; omega)).mono ?_;rintro e v20 ⟨tx, rfl, htx, hw, ha⟩;have X20 := hid (X19.out.rd hw ha);have TX := hid (show tx.size ≤ 2 by omega);clear hw ha X19 htx;go_wp2_with fail;refine hK.out _ _ ⟨(X20.out.x _ (.tail _ (.head _))).1⟩ ?_;clear hK K hHeld;intro hHeld;try simp only [qq]
   refine wpLast_take2 (i := 27) (v := ?_) (at_lit rfl) (by kernel_rfl) (by kernel_rfl) (by kernel_rfl) (by kernel_rfl) (fun c a w h => hP c a _ _ w h) (Or.inl ⟨by rfl, ?_⟩) hHeld ?_;rotate_left
   ·(intro w9 hSw; have hq := hSw.k.cell; clear hSw; go_simp; try with_reducible rfl)
   try simp only [qq]
   refine wpLast_end (by kernel_rfl) (at_lit rfl) (by kernel_rfl) (fun K hK => ?_);rw [if_pos (by rfl)];refine wp_store_row 49 _ _ rfl (v1.heap.size) (msgV ⟨1 + (b1 : Int), 1 + (b6 : Int), r.num, bb, (b17 : Int), (b24 : Int), tx⟩ (.slice none 0 0)) rfl rfl 49 #[.int .i64 0, .int .i64 0, .int .i64 0, .int .i64 0, .int .i64 0, .int .i64 0, .string ⟨#[]⟩, .slice none 0 0] (X20.out.x _ (.head _)).1 (by kernel_rfl) rfl (by simp [Value.oneCell']) ?_;refine hK.out _ _ ?_;refine KF.out _ _ ⟨v1.heap.size, ⟨1 + (b1 : Int), 1 + (b6 : Int), r.num, bb, (b17 : Int), (b24 : Int), tx⟩, ?_, ?_, ?_, ?_, ?_, ?_, ?_, ?_, ?_, ?_, ?_, ?_, ?_, ?_, ?_, ?_, ?_, ?_, ?_, ?_, ?_, ?_, ?_, ?_, ?_, ?_, ?_, ?_, ?_, TX.out, GM.out, ⟨by show (1 : Int) ≤ 1 + (b1 : Int); omega, by show 1 + (b1 : Int) ≤ 9; omega⟩, X20.out.top HC.out (fun c hc => setRow_other _ _ _ _ hc) (setRow_heap _ _ _ _ _ _ (X20.out.x _ (.head _)).1) (below_setRow' (Below.refl _ _) (X20.out.x _ (.head _)).2 _) (fun u hu => ?_)⟩;rotate_left 28
   ·try simp only [qq]
    rfl
   simp only [List.mem_cons, List.not_mem_nil, or_false] at hu;rcases hu with rfl | rfl
   ·exact fun e => GM.out.1 e.symm
   exact fun e => GM.out.2 e.symm
  go_simp;obtain ⟨v21, hv21⟩ : ∃ u, u = v0.alloc (.cells #[.int .i64 0, .int .i64 0, .int .i64 0, .int .i64 0, .int .i64 0, .int .i64 0, .string ⟨#[]⟩, .slice none 0 0] 49) := ⟨_, rfl⟩
  have X21 := hid (show RX w g ca n cap ((v0.heap.size, 49, #[.int .i64 0, .int .i64 0, .int .i64 0, .int .i64 0, .int .i64 0, .int .i64 0, .string ⟨#[]⟩, .slice none 0 0]) :: (w.heap.size, 31, rcV r pr) :: (w.heap.size + 1, 49, #[.int .i64 0, .int .i64 0, .int .i64 0, .int .i64 0, .int .i64 0, .int .i64 0, .string ⟨#[]⟩, .slice none 0 0]) :: []) (k4) v21 by rw [hv21]; exact X0.out.new _ _);have GM := hid (show v0.heap.size ≠ w.heap.size ∧ v0.heap.size ≠ w.heap.size + 1 from ⟨Nat.ne_of_gt (X0.out.x _ (.head _)).1.lt, Nat.ne_of_gt (X0.out.x _ (.tail _ (.head _))).1.lt⟩);rw [← hv21];clear hv21 X0;refine hK.out _ _ ⟨(X21.out.x _ (.tail _ (.head _))).1⟩ ?_;clear hK K hHeld;intro hHeld;try simp only [qq]
  refine rdL 1 (by kernel_rfl) (at_lit rfl) (fun K hK => ?_);go_simp;refine (pickW v21 g ca n cap (k4) 9 X21.out.a (by have := HK4.out; have := HP.out; omega) (by omega) (by omega)).mono ?_;rintro e v22 ⟨b1, rfl, hb1, hu, ha⟩;have X22 := hid (X21.out.pick hu ha);clear hu ha X21;go_wp2_with fail;refine hK.out _ _ ⟨(X22.out.x _ (.tail _ (.head _))).1⟩ ?_;clear hK K hHeld;intro hHeld;try simp only [qq]
  have f1 : IntKind.i64.wrap (1 + (b1 : Int)) = 1 + (b1 : Int) := by go_arith
  refine wpLast_take2 (i := 2) (v := ?_) (at_lit rfl) (by kernel_rfl) (by kernel_rfl) (by kernel_rfl) (by kernel_rfl) (fun c a w h => hP c a _ _ w h) (Or.inl ⟨by rfl, ?_⟩) hHeld ?_;rotate_left
  ·(intro w9 hSw; have hq := hSw.k.cell; clear hSw; go_simp; try with_reducible rfl)
  try simp only [qq]
  clear f1;refine rdL 6 (by kernel_rfl) (at_lit rfl) (fun K hK => ?_);go_simp;refine (pickW v22 g ca n cap (k4 + 1) r.of_ X22.out.a (by have := HK4.out; have := HP.out; omega) (by have := VRr.out.o5; omega) VRr.out.o1).mono ?_;rintro e v23 ⟨b6, rfl, hb6, hu, ha⟩;have X23 := hid (X22.out.pick hu ha);clear hu ha X22;go_wp2_with fail;refine hK.out _ _ ⟨(X23.out.x _ (.tail _ (.head _))).1⟩ ?_;clear hK K hHeld;intro hHeld;try simp only [qq]
  have f6 : IntKind.i64.wrap (1 + (b6 : Int)) = 1 + (b6 : Int) := by have := VRr.out.o5; go_arith
  refine wpLast_take2 (i := 7) (v := ?_) (at_lit rfl) (by kernel_rfl) (by kernel_rfl) (by kernel_rfl) (by kernel_rfl) (fun c a w h => hP c a _ _ w h) (Or.inl ⟨by rfl, ?_⟩) hHeld ?_;rotate_left
  ·(intro w9 hSw; have hq := hSw.k.cell; clear hSw; go_simp; try with_reducible rfl)
  try simp only [qq]
  clear f6;refine rdL 17 (by kernel_rfl) (at_lit rfl) (fun K hK => ?_);go_simp;refine (pickW v23 g ca n cap (k4 + 1 + 1) ((r.ds.length : Int) + 3) X23.out.a (by have := HK4.out; have := HP.out; omega) (by have := VRr.out.d.lk.n; omega) (by omega)).mono ?_;rintro e v24 ⟨b17, rfl, hb17, hu, ha⟩;have X24 := hid (X23.out.pick hu ha);clear hu ha X23;go_wp2_with fail;refine hK.out _ _ ⟨(X24.out.x _ (.tail _ (.head _))).1⟩ ?_;clear hK K hHeld;intro hHeld;try simp only [qq]
  refine rdL 24 (by kernel_rfl) (at_lit rfl) (fun K hK => ?_);go_simp;refine (pickW v24 g ca n cap (k4 + 1 + 1 + 1) ((r.ds.length : Int) + 3) X24.out.a (by have := HK4.out; have := HP.out; omega) (by have := VRr.out.d.lk.n; omega) (by omega)).mono ?_;rintro e v25 ⟨b24, rfl, hb24, hu, ha⟩;have X25 := hid (X24.out.pick hu ha);clear hu ha X24;go_wp2_with fail;refine hK.out _ _ ⟨(X25.out.x _ (.tail _ (.head _))).1⟩ ?_;clear hK K hHeld;intro hHeld;try simp only [qq]
  refine rdL 26 (by kernel_rfl) (at_lit rfl) (fun K hK => ?_);go_simp;refine (textW v25 g ca n cap (k4 + 1 + 1 + 1 + 1) X25.out.a (by have := HK4.out; have := HP.out; omega)).mono ?_;rintro e v26 ⟨tx, rfl, htx, hw, ha⟩;have X26 := hid (X25.out.rd hw ha);have TX := hid (show tx.size ≤ 2 by omega);clear hw ha X25 htx;go_wp2_with fail;refine hK.out _ _ ⟨(X26.out.x _ (.tail _ (.head _))).1⟩ ?_;clear hK K hHeld;intro hHeld;try simp only [qq]
  refine wpLast_take2 (i := 27) (v := ?_) (at_lit rfl) (by kernel_rfl) (by kernel_rfl) (by kernel_rfl) (by kernel_rfl) (fun c a w h => hP c a _ _ w h) (Or.inl ⟨by rfl, ?_⟩) hHeld ?_;rotate_left
  ·(intro w9 hSw; have hq := hSw.k.cell; clear hSw; go_simp; try with_reducible rfl)
  try simp only [qq]
  refine wpLast_end (by kernel_rfl) (at_lit rfl) (by kernel_rfl) (fun K hK => ?_);rw [if_pos (by rfl)];refine wp_store_row 49 _ _ rfl (v0.heap.size) (msgV ⟨1 + (b1 : Int), 1 + (b6 : Int), r.num, bb, (b17 : Int), (b24 : Int), tx⟩ (.slice none 0 0)) rfl rfl 49 #[.int .i64 0, .int .i64 0, .int .i64 0, .int .i64 0, .int .i64 0, .int .i64 0, .string ⟨#[]⟩, .slice none 0 0] (X26.out.x _ (.head _)).1 (by kernel_rfl) rfl (by simp [Value.oneCell']) ?_;refine hK.out _ _ ?_;refine KF.out _ _ ⟨v0.heap.size, ⟨1 + (b1 : Int), 1 + (b6 : Int), r.num, bb, (b17 : Int), (b24 : Int), tx⟩, ?_, ?_, ?_, ?_, ?_, ?_, ?_, ?_, ?_, ?_, ?_, ?_, ?_, ?_, ?_, ?_, ?_, ?_, ?_, ?_, ?_, ?_, ?_, ?_, ?_, ?_, ?_, ?_, ?_, TX.out, GM.out, ⟨by show (1 : Int) ≤ 1 + (b1 : Int); omega, by show 1 + (b1 : Int) ≤ 9; omega⟩, X26.out.top HC.out (fun c hc => setRow_other _ _ _ _ hc) (setRow_heap _ _ _ _ _ _ (X26.out.x _ (.head _)).1) (below_setRow' (Below.refl _ _) (X26.out.x _ (.head _)).2 _) (fun u hu => ?_)⟩;rotate_left 28
  ·try simp only [qq]
   rfl
  simp only [List.mem_cons, List.not_mem_nil, or_false] at hu;rcases hu with rfl | rfl
  ·exact fun e => GM.out.1 e.symm
  exact fun e => GM.out.2 e.symm
 rintro a5 W5 ⟨gm, hm, u21, u22, u23, u24, u25, u26, u27, u28, u29, u30, u31, u32, u33, u34, u35, u36, u37, u38, u39, u40, u41, u42, u43, u44, u45, u46, u47, u48, rfl, htx, hgm, hkk, hs5⟩;try simp only [qq]
 have S5 := hid hs5;have TX := hid (show hm.x.size ≤ 5 by omega);have GM := hid hgm
 have NEX := hid (show ∀ u ∈ ((w.heap.size, 31, rcV r pr) :: (w.heap.size + 1, 49, #[.int .i64 0, .int .i64 0, .int .i64 0, .int .i64 0, .int .i64 0, .int .i64 0, .string ⟨#[]⟩, .slice none 0 0]) :: [] : List (Nat × TypeId × Array Value)), u.1 ≠ gm from fun u hu => by
  simp only [List.mem_cons, List.not_mem_nil, or_false] at hu;rcases hu with rfl | rfl
  ·exact fun e => hgm.1 e.symm
  exact fun e => hgm.2 e.symm)
 clear hs5 htx hgm S4;have cM := (S5.out.x _ (.head _)).1.cell;by_cases h2 : hm.k = 2
 ·have u2 : (hm.k == 2) = true := by simpa using h2
  clear h2;go_wp2_with fail;clear cM;refine (drawSlots W5 g ca n cap (k4 + 1 + 1 + 1 + 1 + 1) 6 S5.out.a (by have := HK4.out; have := HP.out; omega) (by omega) (fun x hx => Nat.lt_of_lt_of_le (HC.out x hx) S5.out.w.size)).mono ?_;rintro e w6 ⟨l, nl, a1, c1, p6, rfl, ds, hnl, hp6⟩
  have D6 := hid (show DK w g ca n cap ((gm, 49, msgV hm (.slice none 0 0)) :: (w.heap.size, 31, rcV r pr) :: (w.heap.size + 1, 49, #[.int .i64 0, .int .i64 0, .int .i64 0, .int .i64 0, .int .i64 0, .int .i64 0, .string ⟨#[]⟩, .slice none 0 0]) :: []) l nl a1 c1 p6 w6 from
   ⟨S5.out.rd ds.w ds.a, ds.row.low S5.out.w.size, ds.ln, fun u hu x hx e => by
    have h1 := (ds.row.lt x hx).1;have h2 := (S5.out.x u hu).1.lt
    omega, fun s hs => by have := ds.ok s hs; omega⟩)
  clear ds S5;have cM := (D6.out.r.x _ (.head _)).1.cell;have fM := (D6.out.r.x _ (.head _)).1.free;have G := hid (show DK w g ca n cap ((gm, 49, msgV hm (.slice a1 nl c1)) :: (w.heap.size, 31, rcV r pr) :: (w.heap.size + 1, 49, #[.int .i64 0, .int .i64 0, .int .i64 0, .int .i64 0, .int .i64 0, .int .i64 0, .string ⟨#[]⟩, .slice none 0 0]) :: []) l nl a1 c1 p6 (w6.setCell ⟨gm, 7, none⟩ (.slice a1 nl c1)) from D6.out.top HC.out (fun c hc => heap_setCell_other _ _ _ _ hc) ((D6.out.r.x _ (.head _)).1.set (o := 7) (.slice a1 nl c1)) ((Below.refl _ _).setCell (D6.out.r.x _ (.head _)).2 _) NEX.out);clear D6;have k6 := (G.out.r.x _ (.head _)).1;have kz := (G.out.r.x _ (.tail _ (.tail _ (.head _)))).1;go_wp2_with (first | ((with_reducible refine wpList_load_m8 gm (msgV hm (.slice a1 nl c1)) rfl ?_ ?_ ?_); (· rfl); (· exact k6)) | ((with_reducible refine wpList_store_m8a (w.heap.size + 1) #[.int .i64 0, .int .i64 0, .int .i64 0, .int .i64 0, .int .i64 0, .int .i64 0, .string ⟨#[]⟩, .slice none 0 0] (msgV hm (.slice a1 nl c1)) rfl rfl ?_ ?_ ?_ ?_ ?_); (· rfl); (· rfl); (· exact kz); (· simp [Value.oneCell'])));have hz := setRow_heap _ (w.heap.size + 1) _ (msgV hm (.slice a1 nl c1)) _ _ kz;refine ret_cell (ty := 49) Try.results61 (w.heap.size + 1) (msgV hm (.slice a1 nl c1)) _ ?_ ?_ hz Try.underlying49 rfl (by kernel_rfl) ?_
  ·rfl
  ·rfl
  exact ⟨hm, l, nl, a1, c1, _, rfl, G.out.ends (.tail _ (.tail _ (.head _))) HC.out, TX.out, by omega, by have := HK4.out; omega⟩
 have u2 : (hm.k == 2) = false := by simpa using h2
 by_cases h6 : hm.k = 6
 ·have u6 : (hm.k == 6) = true := by simpa using h6
  clear h6;go_wp2_with fail;refine (pickW W5 g ca n cap (k4 + 1 + 1 + 1 + 1 + 1) 2 S5.out.a (by have := HK4.out; have := HP.out; omega) (by omega) (by omega)).mono ?_;rintro e w6 ⟨b6, rfl, hb6, hu, ha⟩;have S6 := hid (S5.out.pick hu ha);clear hu ha S5 cM;by_cases hb0 : b6 = 0
  ·subst hb0;go_wp2_with fail;have hK0 : BkRM w.heap.size gm (rcV r pr) (msgV hm (.slice none 0 0)) w6 := ⟨(S6.out.x _ (.tail _ (.head _))).1, (S6.out.x _ (.head _)).1⟩
   refine wp_region_last (S := BkRM w.heap.size gm (rcV r pr) (msgV hm (.slice none 0 0))) 8 (by kernel_rfl) ⟨Blk.drew hK0.k, Blk.drew hK0.m⟩ (fun hHeld => ?_);simp only [qz, Nat.reduceAdd];obtain ⟨w7, hw7⟩ : ∃ u, u = w6.drew := ⟨_, rfl⟩
   have S7 := hid (S6.out.ext (show Below w6.heap.size w6 w7 by rw [hw7]; exact (Below.refl _ _).drew));rw [← hw7] at hHeld ⊢;clear hw7 hK0 S6;have f3 : IntKind.i64.wrap (r.dk + 1) = r.dk + 1 := by have := VRr.out.d.k0; have := VRr.out.d.k1; have := VRr.out.d.lk.n; go_arith
   refine planR.go [0, 1, 2, 3, 4] ?_;iterate 5 (apply planR.take (at_lit rfl) (by kernel_rfl) (by rfl) (fun _ _ _ h => h) hHeld; (· intro w9 hSw; have hq := hSw.k.cell; clear hSw; go_simp; try with_reducible rfl); try simp only [qq])
   refine planR.fin ?_;clear f3;refine rdL 5 (by kernel_rfl) (at_lit rfl) (fun K hK => ?_);go_simp;refine (pickW w7 g ca n cap (k4 + 1 + 1 + 1 + 1 + 1 + 1) 2 S7.out.a (by have := HK4.out; have := HP.out; omega) (by omega) (by omega)).mono ?_;rintro e w8 ⟨b8, rfl, hb8, hu, ha⟩;have S8 := hid (S7.out.pick hu ha);clear hu ha S7;go_wp2_with fail;refine hK.out _ _ ⟨(S8.out.x _ (.tail _ (.head _))).1, (S8.out.x _ (.head _)).1⟩ ?_;clear hK K hHeld;intro hHeld;try simp only [qq]
   have f6 : IntKind.i64.wrap (r.dk + 1 - (b8 : Int)) = r.dk + 1 - (b8 : Int) := by have := VRr.out.d.k0; have := VRr.out.d.k1; have := VRr.out.d.lk.n; go_arith
   refine planR.go [6, 7] ?_;iterate 2 (apply planR.take (at_lit rfl) (by kernel_rfl) (by rfl) (fun _ _ _ h => h) hHeld; (· intro w9 hSw; have hq := hSw.k.cell; clear hSw; go_simp; try with_reducible rfl); try simp only [qq])
   refine planR.fin ?_;clear f6;refine wpLast_end (by kernel_rfl) (at_lit rfl) (by kernel_rfl) (fun K hK => ?_);have cB := hHeld.m.cell;have fB := hHeld.m.free;go_simp;refine hK.out _ _ ?_;clear hK K hHeld cB fB;have G := hid (show DK w g ca n cap ((gm, 49, msgV { hm with i := r.dk + 1 - (b8 : Int) } (.slice none 0 0)) :: (w.heap.size, 31, rcV r pr) :: (w.heap.size + 1, 49, #[.int .i64 0, .int .i64 0, .int .i64 0, .int .i64 0, .int .i64 0, .int .i64 0, .string ⟨#[]⟩, .slice none 0 0]) :: []) [] 0 none 0 _ (w8.setCell ⟨gm, 4, none⟩ (.int .i64 (r.dk + 1 - (b8 : Int)))) from S8.out.dk.top HC.out (fun c hc => heap_setCell_other _ _ _ _ hc) ((S8.out.x _ (.head _)).1.set (o := 4) (.int .i64 (r.dk + 1 - (b8 : Int)))) ((Below.refl _ _).setCell (S8.out.x _ (.head _)).2 _) NEX.out);have k6 := (G.out.r.x _ (.head _)).1;have kz := (G.out.r.x _ (.tail _ (.tail _ (.head _)))).1;go_wp2_with (first | ((with_reducible refine wpList_load_m8 gm (msgV { hm with i := r.dk + 1 - (b8 : Int) } (.slice none 0 0)) rfl ?_ ?_ ?_); (· rfl); (· exact k6)) | ((with_reducible refine wpList_store_m8a (w.heap.size + 1) #[.int .i64 0, .int .i64 0, .int .i64 0, .int .i64 0, .int .i64 0, .int .i64 0, .string ⟨#[]⟩, .slice none 0 0] (msgV { hm with i := r.dk + 1 - (b8 : Int) } (.slice none 0 0)) rfl rfl ?_ ?_ ?_ ?_ ?_); (· rfl); (· rfl); (· exact kz); (· simp [Value.oneCell'])));have hz := setRow_heap _ (w.heap.size + 1) _ (msgV { hm with i := r.dk + 1 - (b8 : Int) } (.slice none 0 0)) _ _ kz;refine ret_cell (ty := 49) Try.results61 (w.heap.size + 1) (msgV { hm with i := r.dk + 1 - (b8 : Int) } (.slice none 0 0)) _ ?_ ?_ hz Try.underlying49 rfl (by kernel_rfl) ?_
   ·rfl
   ·rfl
   exact ⟨{ hm with i := r.dk + 1 - (b8 : Int) }, [], 0, none, 0, _, rfl, G.out.ends (.tail _ (.tail _ (.head _))) HC.out, TX.out, by omega, by have := HK4.out; omega⟩
  have eb : ¬ (b6 : Int) = 0 := by omega
  have ub : ((b6 : Int) == 0) = false := by simpa using eb
  have G := hid S6.out.dk;have k6 := (G.out.r.x _ (.head _)).1;have kz := (G.out.r.x _ (.tail _ (.tail _ (.head _)))).1;go_wp2_with (first | ((with_reducible refine wpList_load_m8 gm (msgV hm (.slice none 0 0)) rfl ?_ ?_ ?_); (· rfl); (· exact k6)) | ((with_reducible refine wpList_store_m8a (w.heap.size + 1) #[.int .i64 0, .int .i64 0, .int .i64 0, .int .i64 0, .int .i64 0, .int .i64 0, .string ⟨#[]⟩, .slice none 0 0] (msgV hm (.slice none 0 0)) rfl rfl ?_ ?_ ?_ ?_ ?_); (· rfl); (· rfl); (· exact kz); (· simp [Value.oneCell'])));have hz := setRow_heap _ (w.heap.size + 1) _ (msgV hm (.slice none 0 0)) _ _ kz;refine ret_cell (ty := 49) Try.results61 (w.heap.size + 1) (msgV hm (.slice none 0 0)) _ ?_ ?_ hz Try.underlying49 rfl (by kernel_rfl) ?_
  ·rfl
  ·rfl
  exact ⟨hm, [], 0, none, 0, _, rfl, G.out.ends (.tail _ (.tail _ (.head _))) HC.out, TX.out, by omega, by have := HK4.out; omega⟩
 have u6 : (hm.k == 6) = false := by simpa using h6
 by_cases h7 : hm.k = 7
 ·have u7 : (hm.k == 7) = true := by simpa using h7
  clear h7;go_wp2_with fail;refine (pickW W5 g ca n cap (k4 + 1 + 1 + 1 + 1 + 1) 2 S5.out.a (by have := HK4.out; have := HP.out; omega) (by omega) (by omega)).mono ?_;rintro e w6 ⟨b6, rfl, hb6, hu, ha⟩;have S6 := hid (S5.out.pick hu ha);clear hu ha S5 cM;by_cases hb0 : b6 = 0
  ·subst hb0;go_wp2_with fail;have hK0 : BkRM w.heap.size gm (rcV r pr) (msgV hm (.slice none 0 0)) w6 := ⟨(S6.out.x _ (.tail _ (.head _))).1, (S6.out.x _ (.head _)).1⟩
   refine wp_region_last (S := BkRM w.heap.size gm (rcV r pr) (msgV hm (.slice none 0 0))) 8 (by kernel_rfl) ⟨Blk.drew hK0.k, Blk.drew hK0.m⟩ (fun hHeld => ?_);simp only [qz, Nat.reduceAdd];obtain ⟨w7, hw7⟩ : ∃ u, u = w6.drew := ⟨_, rfl⟩
   have S7 := hid (S6.out.ext (show Below w6.heap.size w6 w7 by rw [hw7]; exact (Below.refl _ _).drew));rw [← hw7] at hHeld ⊢;clear hw7 hK0 S6;have f3 : IntKind.i64.wrap (r.dk + 1) = r.dk + 1 := by have := VRr.out.d.k0; have := VRr.out.d.k1; have := VRr.out.d.lk.n; go_arith
   refine planR.go [0, 1, 2, 3, 4] ?_;iterate 5 (apply planR.take (at_lit rfl) (by kernel_rfl) (by rfl) (fun _ _ _ h => h) hHeld; (· intro w9 hSw; have hq := hSw.k.cell; clear hSw; go_simp; try with_reducible rfl); try simp only [qq])
   refine planR.fin ?_;clear f3;refine rdL 5 (by kernel_rfl) (at_lit rfl) (fun K hK => ?_);go_simp;refine (pickW w7 g ca n cap (k4 + 1 + 1 + 1 + 1 + 1 + 1) 2 S7.out.a (by have := HK4.out; have := HP.out; omega) (by omega) (by omega)).mono ?_;rintro e w8 ⟨b8, rfl, hb8, hu, ha⟩;have S8 := hid (S7.out.pick hu ha);clear hu ha S7;go_wp2_with fail;refine hK.out _ _ ⟨(S8.out.x _ (.tail _ (.head _))).1, (S8.out.x _ (.head _)).1⟩ ?_;clear hK K hHeld;intro hHeld;try simp only [qq]
   have f6 : IntKind.i64.wrap (r.dk + 1 - (b8 : Int)) = r.dk + 1 - (b8 : Int) := by have := VRr.out.d.k0; have := VRr.out.d.k1; have := VRr.out.d.lk.n; go_arith
   refine planR.go [6, 7] ?_;iterate 2 (apply planR.take (at_lit rfl) (by kernel_rfl) (by rfl) (fun _ _ _ h => h) hHeld; (· intro w9 hSw; have hq := hSw.k.cell; clear hSw; go_simp; try with_reducible rfl); try simp only [qq])
   refine planR.fin ?_;clear f6;refine wpLast_end (by kernel_rfl) (at_lit rfl) (by kernel_rfl) (fun K hK => ?_);have cB := hHeld.m.cell;have fB := hHeld.m.free;go_simp;refine hK.out _ _ ?_;clear hK K hHeld cB fB;have G := hid (show DK w g ca n cap ((gm, 49, msgV { hm with i := r.dk + 1 - (b8 : Int) } (.slice none 0 0)) :: (w.heap.size, 31, rcV r pr) :: (w.heap.size + 1, 49, #[.int .i64 0, .int .i64 0, .int .i64 0, .int .i64 0, .int .i64 0, .int .i64 0, .string ⟨#[]⟩, .slice none 0 0]) :: []) [] 0 none 0 _ (w8.setCell ⟨gm, 4, none⟩ (.int .i64 (r.dk + 1 - (b8 : Int)))) from S8.out.dk.top HC.out (fun c hc => heap_setCell_other _ _ _ _ hc) ((S8.out.x _ (.head _)).1.set (o := 4) (.int .i64 (r.dk + 1 - (b8 : Int)))) ((Below.refl _ _).setCell (S8.out.x _ (.head _)).2 _) NEX.out);have k6 := (G.out.r.x _ (.head _)).1;have kz := (G.out.r.x _ (.tail _ (.tail _ (.head _)))).1;go_wp2_with (first | ((with_reducible refine wpList_load_m8 gm (msgV { hm with i := r.dk + 1 - (b8 : Int) } (.slice none 0 0)) rfl ?_ ?_ ?_); (· rfl); (· exact k6)) | ((with_reducible refine wpList_store_m8a (w.heap.size + 1) #[.int .i64 0, .int .i64 0, .int .i64 0, .int .i64 0, .int .i64 0, .int .i64 0, .string ⟨#[]⟩, .slice none 0 0] (msgV { hm with i := r.dk + 1 - (b8 : Int) } (.slice none 0 0)) rfl rfl ?_ ?_ ?_ ?_ ?_); (· rfl); (· rfl); (· exact kz); (· simp [Value.oneCell'])));have hz := setRow_heap _ (w.heap.size + 1) _ (msgV { hm with i := r.dk + 1 - (b8 : Int) } (.slice none 0 0)) _ _ kz;refine ret_cell (ty := 49) Try.results61 (w.heap.size + 1) (msgV { hm with i := r.dk + 1 - (b8 : Int) } (.slice none 0 0)) _ ?_ ?_ hz Try.underlying49 rfl (by kernel_rfl) ?_
   ·rfl
   ·rfl
   exact ⟨{ hm with i := r.dk + 1 - (b8 : Int) }, [], 0, none, 0, _, rfl, G.out.ends (.tail _ (.tail _ (.head _))) HC.out, TX.out, by omega, by have := HK4.out; omega⟩
  have eb : ¬ (b6 : Int) = 0 := by omega
  have ub : ((b6 : Int) == 0) = false := by simpa using eb
  have G := hid S6.out.dk;have k6 := (G.out.r.x _ (.head _)).1;have kz := (G.out.r.x _ (.tail _ (.tail _ (.head _)))).1;go_wp2_with (first | ((with_reducible refine wpList_load_m8 gm (msgV hm (.slice none 0 0)) rfl ?_ ?_ ?_); (· rfl); (· exact k6)) | ((with_reducible refine wpList_store_m8a (w.heap.size + 1) #[.int .i64 0, .int .i64 0, .int .i64 0, .int .i64 0, .int .i64 0, .int .i64 0, .string ⟨#[]⟩, .slice none 0 0] (msgV hm (.slice none 0 0)) rfl rfl ?_ ?_ ?_ ?_ ?_); (· rfl); (· rfl); (· exact kz); (· simp [Value.oneCell'])));have hz := setRow_heap _ (w.heap.size + 1) _ (msgV hm (.slice none 0 0)) _ _ kz;refine ret_cell (ty := 49) Try.results61 (w.heap.size + 1) (msgV hm (.slice none 0 0)) _ ?_ ?_ hz Try.underlying49 rfl (by kernel_rfl) ?_
  ·rfl
  ·rfl
  exact ⟨hm, [], 0, none, 0, _, rfl, G.out.ends (.tail _ (.tail _ (.head _))) HC.out, TX.out, by omega, by have := HK4.out; omega⟩
 have u7 : (hm.k == 7) = false := by simpa using h7
 have G := hid S5.out.dk;have k6 := (G.out.r.x _ (.head _)).1;have kz := (G.out.r.x _ (.tail _ (.tail _ (.head _)))).1;go_wp2_with (first | ((with_reducible refine wpList_load_m8 gm (msgV hm (.slice none 0 0)) rfl ?_ ?_ ?_); (· rfl); (· exact k6)) | ((with_reducible refine wpList_store_m8a (w.heap.size + 1) #[.int .i64 0, .int .i64 0, .int .i64 0, .int .i64 0, .int .i64 0, .int .i64 0, .string ⟨#[]⟩, .slice none 0 0] (msgV hm (.slice none 0 0)) rfl rfl ?_ ?_ ?_ ?_ ?_); (· rfl); (· rfl); (· exact kz); (· simp [Value.oneCell'])));have hz := setRow_heap _ (w.heap.size + 1) _ (msgV hm (.slice none 0 0)) _ _ kz;refine ret_cell (ty := 49) Try.results61 (w.heap.size + 1) (msgV hm (.slice none 0 0)) _ ?_ ?_ hz Try.underlying49 rfl (by kernel_rfl) ?_
 ·rfl
 ·rfl
 exact ⟨hm, [], 0, none, 0, _, rfl, G.out.ends (.tail _ (.tail _ (.head _))) HC.out, TX.out, by omega, by have := HK4.out; omega⟩
end Go.Proofs.Ytjdceoimignnpaa
