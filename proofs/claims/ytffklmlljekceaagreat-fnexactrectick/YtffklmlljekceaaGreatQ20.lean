import Derived.Test.YtffklmlljekceaaGreatQ19
namespace Go.Proofs.YtffklmlljekceaaGreat
open Go.ChangeShapes Go.WideShapes Go.ChangeAt Go.RowKit
set_option linter.unusedSimpArgs false
set_option linter.unusedVariables false
set_option maxHeartbeats 16000000
set_option maxRecDepth 20000
theorem wp_newT {dst : Option Tmp} {s x : Operand} {τ : TypeId} {pos : String} {after : Array Edge} {g : Option (Nat × Bool)} {a : Act} {w : World} {K : Act → World → Prop} {Q : Exit → Act → World → Prop}
  (b : Nat) (xa : Option Addr) (m c : Nat) (news : List Value) (hs : a.eval s = .slice (some ⟨b, 0, none⟩) 0 0) (hx : a.eval x = .slice xa m c) (hb : Blk w b #[] 9) (hr : ReadAt w xa m c 1 news)
  (h1 : ∀ u ∈ news, u.oneCell' = true) (hN : m ≤ 4194304)
  (h : ∀ a' c' w', w'.ownsRow b 9 1 (.slice a' m c') m news → w.grownBy w' (some b) → K (a.put dst (.slice a' m c')) w') :
  Oper.wp Tryz.prog ({ dst := dst, op := .call { callee := .builtin .append, args := #[s, x], argTypes := #[26, 26] }, type := τ, pos := pos, after := after, guard := g } : Oper) a w K Q :=
 wp_appT b (some ⟨b, 0, none⟩) 0 0 [] xa m c news hs hx ⟨by simp, .inr ⟨b, 0, #[], rfl, Nat.le_refl _, hb, Nat.le_refl _, by unfold maxLen; omega, by simp, by simp⟩⟩ hr h1 (by omega) (Nat.le_of_lt hb.lt) fun a' c' w' h2 h3 _ => by
  simp only [Nat.zero_add, List.nil_append] at h2 ⊢
  exact h a' c' w' h2 h3
theorem wpList_newT {ops : Array Oper} {rest : List Oper} {dst : Option Tmp} {s x : Operand} {τ : TypeId} {pos : String} {after : Array Edge} {a : Act} {w : World} {Q : Exit → Act → World → Prop}
  (b : Nat) (xa : Option Addr) (m c : Nat) (news : List Value) (hs : a.eval s = .slice (some ⟨b, 0, none⟩) 0 0) (hx : a.eval x = .slice xa m c) (hb : Blk w b #[] 9) (hr : ReadAt w xa m c 1 news)
  (h1 : ∀ u ∈ news, u.oneCell' = true) (hN : m ≤ 4194304)
  (h : ∀ a' c' w', w'.ownsRow b 9 1 (.slice a' m c') m news → w.grownBy w' (some b) → wpList Tryz.prog ops Q rest (a.put dst (.slice a' m c')) w') :
  wpList Tryz.prog ops Q ({ dst := dst, op := .call { callee := .builtin .append, args := #[s, x], argTypes := #[26, 26] }, type := τ, pos := pos, after := after, guard := none } :: rest) a w :=
 wpList_plain rfl fun _ hK => wp_newT b xa m c news hs hx hb hr h1 hN fun a' c' w' h2 h3 => hK _ _ (h a' c' w' h2 h3)
theorem wp_newI {dst : Option Tmp} {s x : Operand} {τ : TypeId} {pos : String} {after : Array Edge} {g : Option (Nat × Bool)} {a : Act} {w : World} {K : Act → World → Prop} {Q : Exit → Act → World → Prop}
  (b : Nat) (xa : Option Addr) (m c : Nat) (news : List Value) (hs : a.eval s = .slice (some ⟨b, 0, none⟩) 0 0) (hx : a.eval x = .slice xa m c) (hb : Blk w b #[] 3) (hr : ReadAt w xa m c 1 news)
  (h1 : ∀ u ∈ news, u.oneCell' = true) (hN : m ≤ 4194304)
  (h : ∀ a' c' w', w'.ownsRow b 3 1 (.slice a' m c') m news → w.grownBy w' (some b) → K (a.put dst (.slice a' m c')) w') :
  Oper.wp Tryz.prog ({ dst := dst, op := .call { callee := .builtin .append, args := #[s, x], argTypes := #[27, 27] }, type := τ, pos := pos, after := after, guard := g } : Oper) a w K Q :=
 wp_appI b (some ⟨b, 0, none⟩) 0 0 [] xa m c news hs hx ⟨by simp, .inr ⟨b, 0, #[], rfl, Nat.le_refl _, hb, Nat.le_refl _, by unfold maxLen; omega, by simp, by simp⟩⟩ hr h1 (by omega) (Nat.le_of_lt hb.lt) fun a' c' w' h2 h3 _ => by
  simp only [Nat.zero_add, List.nil_append] at h2 ⊢
  exact h a' c' w' h2 h3
theorem wpList_newI {ops : Array Oper} {rest : List Oper} {dst : Option Tmp} {s x : Operand} {τ : TypeId} {pos : String} {after : Array Edge} {a : Act} {w : World} {Q : Exit → Act → World → Prop}
  (b : Nat) (xa : Option Addr) (m c : Nat) (news : List Value) (hs : a.eval s = .slice (some ⟨b, 0, none⟩) 0 0) (hx : a.eval x = .slice xa m c) (hb : Blk w b #[] 3) (hr : ReadAt w xa m c 1 news)
  (h1 : ∀ u ∈ news, u.oneCell' = true) (hN : m ≤ 4194304)
  (h : ∀ a' c' w', w'.ownsRow b 3 1 (.slice a' m c') m news → w.grownBy w' (some b) → wpList Tryz.prog ops Q rest (a.put dst (.slice a' m c')) w') :
  wpList Tryz.prog ops Q ({ dst := dst, op := .call { callee := .builtin .append, args := #[s, x], argTypes := #[27, 27] }, type := τ, pos := pos, after := after, guard := none } :: rest) a w :=
 wpList_plain rfl fun _ hK => wp_newI b xa m c news hs hx hb hr h1 hN fun a' c' w' h2 h3 => hK _ _ (h a' c' w' h2 h3)
def colX (gH gA n1 n2 n3 n4 n5 n6 n7 n8 b : Nat) : Nat := if b = gH then 2 else if b = gA then 6 else colZ n1 n2 n3 n4 n5 n6 n7 n8 b
theorem colX_of {gH gA n1 n2 n3 n4 n5 n6 n7 n8 b : Nat} (h1 : b ≠ gH) (h2 : b ≠ gA) : colX gH gA n1 n2 n3 n4 n5 n6 n7 n8 b = colZ n1 n2 n3 n4 n5 n6 n7 n8 b := by unfold colX; rw [if_neg h1, if_neg h2]
theorem colX_H (gH gA n1 n2 n3 n4 n5 n6 n7 n8 : Nat) : colX gH gA n1 n2 n3 n4 n5 n6 n7 n8 gH = 2 := by unfold colX; rw [if_pos rfl]
theorem colX_A {gH gA n1 n2 n3 n4 n5 n6 n7 n8 : Nat} (h : gA ≠ gH) : colX gH gA n1 n2 n3 n4 n5 n6 n7 n8 gA = 6 := by unfold colX; rw [if_neg h, if_pos rfl]
theorem RowZ.rowOne {lo hi : Nat} {B : Nat} {w : World} {col : Nat → Nat} {t : Nat} {e : TypeId} {k : Nat} {g n c : Nat} {xs : List Value} (h : RowZ lo hi w e k (some ⟨g, 0, none⟩) n c xs) (hB : B ≤ lo) (hc : col g = t) : RowC B w col t e k (some ⟨g, 0, none⟩) n c xs :=
 (RowC.mk (B := lo) h.own (fun x hx => by simp only [Option.some.injEq] at hx; rw [← hx]; exact hc)).low hB
theorem InnZM.inn' {lo hi B : Nat} {w : World} {H : List Mp} {col : Nat → Nat} {t : Nat} (h : InnZM lo hi w H) (hB : B ≤ lo) (hc : ∀ m ∈ H, ∀ x, m.2.1 = some x → col x.block = t) : InnM B w col t H :=
 ⟨fun m hm => (RowC.mk (B := lo) (h.row m hm).own (hc m hm)).low hB, h.apart⟩
theorem InnZA.inn' {lo hi B : Nat} {w : World} {H : List Ap} {col : Nat → Nat} {t : Nat} (h : InnZA lo hi w H) (hB : B ≤ lo) (hc : ∀ m ∈ H, ∀ x, m.2.1 = some x → col x.block = t) : InnA B w col t H :=
 ⟨fun m hm => (RowC.mk (B := lo) (h.row m hm).own (hc m hm)).low hB, h.apart⟩
theorem below_grown {B g : Nat} {a w w' : World} (h : Below B a w) (k : w.grownBy w' (some g)) (hg : B ≤ g) (ha : B ≤ w.heap.size) : Below B a w' :=
 h.trans ⟨k.os, k.tape, k.output, k.size, fun i hi => k.block i (by omega) (by simp; omega)⟩
theorem grown_below {w w' : World} {b : Nat} (h : w.grownBy w' (some b)) (hb : b ≤ w.heap.size) : Below b w w' := ⟨h.os, h.tape, h.output, h.size, fun k hk => h.block k (by omega) (by simp; omega)⟩
theorem specCopy (B : Nat) (r : Rc) (p : RcP) (X : RcX) (col : Nat → Nat) (w : World) (hS : RcSmall r) (h : RcHas B w r p X col) :
  Calls Tryz.prog 28 #[.agg (rcV r p)] w fun e w' => ∃ p' X' col', e = .returned (.agg (rcV r p')) ∧ RcHas w.heap.size w' r p' X' col' ∧ Below w.heap.size w w' := by
 obtain ⟨aS, cS, aD, cD, aH, cH, aW, cW, aY, cY, aB, cB, aA, cA⟩ := p
 have RD := hid h
 have HS := hid hS
 clear h hS
 have XA := hid (show X.A.length = r.acks.length by rw [← RD.out.am, List.length_map])
 obtain ⟨V, hV⟩ : ∃ V, V = (w.alloc (.cells (rcV r ⟨aS, cS, aD, cD, aH, cH, aW, cW, aY, cY, aB, cB, aA, cA⟩) 41)).alloc (.cells zRc 41) := ⟨_, rfl⟩
 have BV := hid (show Below w.heap.size w V by rw [hV]; exact ext_alloc (ext_alloc (Below.refl _ _) _) _)
 have K1 := hid (show Blk V w.heap.size (rcV r ⟨aS, cS, aD, cD, aH, cH, aW, cW, aY, cY, aB, cB, aA, cA⟩) 41 by rw [hV]; exact (Blk.new _ _ _).alloc _)
 have K2 := hid (show Blk V (w.heap.size + 1) zRc 41 by rw [hV]; exact Blk.new' _ _ (by simp))
 have SZ := hid (show w.heap.size + 1 < V.heap.size from K2.out.lt)
 have cK := K1.out.cell
 rw [hV] at cK
 go_enter Tryz.func28, Tryz.ntmps28
 go_wp2_with fail
 rw [← hV]
 clear hV cK
 refine (l1Disk_at r.sp r.sk aS r.ss r.ss.length cS _ rfl HS.out.lS (RD.out.ext BV.out).s.plain.1 (RD.out.ext BV.out).s.plain.2 (RD.out.ext BV.out).at.hS).mono ?_
 rintro e w1 ⟨gS, cS', rfl, _, oR0, hb⟩
 have oR := RowZ.mk' oR0
 clear oR0
 have LZ1 := hid (show V.heap.size ≤ w1.heap.size from hb.size)
 have LOS := hid (show w.heap.size + 1 < V.heap.size from SZ.out)
 have K1b := hid (K1.out.ext hb)
 have K2b := hid (K2.out.ext hb)
 have BVb := hid (ext_trans BV.out hb)
 clear K1 K2 BV SZ 
 have ZSb := hid oR
 clear oR hb
 obtain ⟨V1, hV1⟩ : ∃ v, v = (((w1.setCell ⟨w.heap.size, 3, none⟩ (.int .i64 r.sp)).setCell ⟨w.heap.size, 4, none⟩ (.int .i64 r.sk)).setCell ⟨w.heap.size, 5, none⟩ (.slice (some ⟨gS, 0, none⟩) r.ss.length cS')) := ⟨_, rfl⟩
 have k1 : Blk (((w1.setCell ⟨w.heap.size, 3, none⟩ (.int .i64 r.sp)).setCell ⟨w.heap.size, 4, none⟩ (.int .i64 r.sk)).setCell ⟨w.heap.size, 5, none⟩ (.slice (some ⟨gS, 0, none⟩) r.ss.length cS')) w.heap.size (rcV r ⟨(some ⟨gS, 0, none⟩), cS', aD, cD, aH, cH, aW, cW, aY, cY, aB, cB, aA, cA⟩) 41 := by (have h9 := ((((K1b.out).set (o := 3) (.int .i64 r.sp)).set (o := 4) (.int .i64 r.sk)).set (o := 5) (.slice (some ⟨gS, 0, none⟩) r.ss.length cS')); simpa using h9)
 have cK := K1b.out.cell
 have fK := K1b.out.free
 have cL := k1.cell
 have fL := k1.free
 skip
 have K1 := hid (show Blk V1 w.heap.size (rcV r ⟨(some ⟨gS, 0, none⟩), cS', aD, cD, aH, cH, aW, cW, aY, cY, aB, cB, aA, cA⟩) 41 by rw [hV1]; exact k1)
 have K2 := hid (show Blk V1 (w.heap.size + 1) zRc 41 by rw [hV1]; exact (((K2b.out.setCell (by simp) _).setCell (by simp) _).setCell (by simp) _))
 have BV := hid (show Below w.heap.size w V1 by rw [hV1]; exact (below_set (below_set (below_set BVb.out (Nat.le_refl _) _) (Nat.le_refl _) _) (Nat.le_refl _) _))
 have SE1 := hid (show w1.heap.size = V1.heap.size by rw [hV1]; simp)
 have SZ := hid (show w.heap.size + 1 < V1.heap.size from K2.out.lt)
 clear k1 K1b K2b BVb
 have ZS := hid (show RowZ V.heap.size w1.heap.size V1 108 2 (some ⟨gS, 0, none⟩) r.ss.length cS' (flat r.ss) by rw [hV1]; exact (((ZSb.out.set (by have := LOS.out; simp; omega) _).set (by have := LOS.out; simp; omega) _).set (by have := LOS.out; simp; omega) _))
 clear ZSb
 go_wp2_with fail
 rw [← hV1]
 clear cK fK cL fL
 refine (l1Disk_at r.dp r.dk aD r.ds r.ds.length cD _ rfl HS.out.lD (RD.out.ext BV.out).d.plain.1 (RD.out.ext BV.out).d.plain.2 (RD.out.ext BV.out).at.hD).mono ?_
 rintro e w2 ⟨gD, cD', rfl, _, oR0, hb⟩
 have oR := RowZ.mk' oR0
 clear oR0
 have LZ2 := hid (show V1.heap.size ≤ w2.heap.size from hb.size)
 have LOD := hid (show w.heap.size + 1 < V1.heap.size from SZ.out)
 have K1b := hid (K1.out.ext hb)
 have K2b := hid (K2.out.ext hb)
 have BVb := hid (ext_trans BV.out hb)
 have ZSb := hid (ZS.out.ext hb)
 clear K1 K2 BV SZ ZS
 have ZDb := hid oR
 clear oR hb
 obtain ⟨V2, hV2⟩ : ∃ v, v = (((w2.setCell ⟨w.heap.size, 6, none⟩ (.int .i64 r.dp)).setCell ⟨w.heap.size, 7, none⟩ (.int .i64 r.dk)).setCell ⟨w.heap.size, 8, none⟩ (.slice (some ⟨gD, 0, none⟩) r.ds.length cD')) := ⟨_, rfl⟩
 have k1 : Blk (((w2.setCell ⟨w.heap.size, 6, none⟩ (.int .i64 r.dp)).setCell ⟨w.heap.size, 7, none⟩ (.int .i64 r.dk)).setCell ⟨w.heap.size, 8, none⟩ (.slice (some ⟨gD, 0, none⟩) r.ds.length cD')) w.heap.size (rcV r ⟨(some ⟨gS, 0, none⟩), cS', (some ⟨gD, 0, none⟩), cD', aH, cH, aW, cW, aY, cY, aB, cB, aA, cA⟩) 41 := by (have h9 := ((((K1b.out).set (o := 6) (.int .i64 r.dp)).set (o := 7) (.int .i64 r.dk)).set (o := 8) (.slice (some ⟨gD, 0, none⟩) r.ds.length cD')); simpa using h9)
 have cK := K1b.out.cell
 have fK := K1b.out.free
 have cL := k1.cell
 have fL := k1.free
 skip
 have K1 := hid (show Blk V2 w.heap.size (rcV r ⟨(some ⟨gS, 0, none⟩), cS', (some ⟨gD, 0, none⟩), cD', aH, cH, aW, cW, aY, cY, aB, cB, aA, cA⟩) 41 by rw [hV2]; exact k1)
 have K2 := hid (show Blk V2 (w.heap.size + 1) zRc 41 by rw [hV2]; exact (((K2b.out.setCell (by simp) _).setCell (by simp) _).setCell (by simp) _))
 have BV := hid (show Below w.heap.size w V2 by rw [hV2]; exact (below_set (below_set (below_set BVb.out (Nat.le_refl _) _) (Nat.le_refl _) _) (Nat.le_refl _) _))
 have SE2 := hid (show w2.heap.size = V2.heap.size by rw [hV2]; simp)
 have SZ := hid (show w.heap.size + 1 < V2.heap.size from K2.out.lt)
 clear k1 K1b K2b BVb
 have ZS := hid (show RowZ V.heap.size w1.heap.size V2 108 2 (some ⟨gS, 0, none⟩) r.ss.length cS' (flat r.ss) by rw [hV2]; exact (((ZSb.out.set (by have := LOS.out; simp; omega) _).set (by have := LOS.out; simp; omega) _).set (by have := LOS.out; simp; omega) _))
 have ZD := hid (show RowZ V1.heap.size w2.heap.size V2 108 2 (some ⟨gD, 0, none⟩) r.ds.length cD' (flat r.ds) by rw [hV2]; exact (((ZDb.out.set (by have := LOD.out; simp; omega) _).set (by have := LOD.out; simp; omega) _).set (by have := LOD.out; simp; omega) _))
 clear ZSb ZDb
 go_wp2_with fail
 rw [← hV2]
 clear cK fK cL fL
 refine (l2MsgsZ aH r.held r.held.length cH _ rfl HS.out.lH HS.out.nH (msgs_plain (RD.out.ext BV.out).h (RD.out.ext BV.out).hm (RD.out.ext BV.out).hi) (RD.out.ext BV.out).at.hH).mono ?_
 rintro e w3 ⟨gH, cH', LH, rfl, oR, oM, oI, hb⟩
 have LZ3 := hid (show V2.heap.size ≤ w3.heap.size from hb.size)
 have LOH := hid (show w.heap.size + 1 < V2.heap.size from SZ.out)
 have K1b := hid (K1.out.ext hb)
 have K2b := hid (K2.out.ext hb)
 have BVb := hid (ext_trans BV.out hb)
 have ZSb := hid (ZS.out.ext hb)
 have ZDb := hid (ZD.out.ext hb)
 clear K1 K2 BV SZ ZS ZD
 have ZHb := hid oR
 clear oR hb
 have ZIb := hid oI
 have HFH := hid oM
 clear oI oM
 obtain ⟨V3, hV3⟩ : ∃ v, v = (w3.setCell ⟨w.heap.size, 9, none⟩ (.slice (some ⟨gH, 0, none⟩) r.held.length cH')) := ⟨_, rfl⟩
 have k1 : Blk (w3.setCell ⟨w.heap.size, 9, none⟩ (.slice (some ⟨gH, 0, none⟩) r.held.length cH')) w.heap.size (rcV r ⟨(some ⟨gS, 0, none⟩), cS', (some ⟨gD, 0, none⟩), cD', (some ⟨gH, 0, none⟩), cH', aW, cW, aY, cY, aB, cB, aA, cA⟩) 41 := by (have h9 := ((K1b.out).set (o := 9) (.slice (some ⟨gH, 0, none⟩) r.held.length cH')); simpa using h9)
 have cK := K1b.out.cell
 have fK := K1b.out.free
 have cL := k1.cell
 have fL := k1.free
 have cM := (k1.alloc (.cells #[] 9)).cell
 have K1 := hid (show Blk V3 w.heap.size (rcV r ⟨(some ⟨gS, 0, none⟩), cS', (some ⟨gD, 0, none⟩), cD', (some ⟨gH, 0, none⟩), cH', aW, cW, aY, cY, aB, cB, aA, cA⟩) 41 by rw [hV3]; exact k1)
 have K2 := hid (show Blk V3 (w.heap.size + 1) zRc 41 by rw [hV3]; exact (K2b.out.setCell (by simp) _))
 have BV := hid (show Below w.heap.size w V3 by rw [hV3]; exact (below_set BVb.out (Nat.le_refl _) _))
 have SE3 := hid (show w3.heap.size = V3.heap.size by rw [hV3]; simp)
 have SZ := hid (show w.heap.size + 1 < V3.heap.size from K2.out.lt)
 clear k1 K1b K2b BVb
 have ZS := hid (show RowZ V.heap.size w1.heap.size V3 108 2 (some ⟨gS, 0, none⟩) r.ss.length cS' (flat r.ss) by rw [hV3]; exact (ZSb.out.set (by have := LOS.out; simp; omega) _))
 have ZD := hid (show RowZ V1.heap.size w2.heap.size V3 108 2 (some ⟨gD, 0, none⟩) r.ds.length cD' (flat r.ds) by rw [hV3]; exact (ZDb.out.set (by have := LOD.out; simp; omega) _))
 have ZH := hid (show RowZ V2.heap.size w3.heap.size V3 45 8 (some ⟨gH, 0, none⟩) r.held.length cH' (flatM LH) by rw [hV3]; exact (ZHb.out.set (by have := LOH.out; simp; omega) _))
 have ZI := hid (show InnZM V2.heap.size w3.heap.size V3 LH by rw [hV3]; exact (ZIb.out.set (by have := LOH.out; simp; omega) _))
 clear ZSb ZDb ZHb ZIb
 go_wp2_with (first
  | ((with_reducible refine wpList_newT w3.heap.size aW r.wish.length cW (flatT r.wish) ?_ ?_ ?_ ?_ ?_ ?_ ?_); (· rfl); (· rfl); (· rw [← hV3]; exact Blk.new' _ _ SE3.out); (· rw [← hV3]; exact (RD.out.ext (ext_alloc BV.out _)).t.read); (· exact flatT_one _); (· exact Nat.le_trans HS.out.lW (by omega)); (rw [← hV3]); (intro aW' cW' w4 q1 q2); (have EB := hid (grown_below q2 (by have := SE1.out; have := LZ1.out; have := SE2.out; have := LZ2.out; have := SE3.out; have := LZ3.out; have := SZ.out; simp; omega))); (have LZ4 := hid (show w3.heap.size ≤ w4.heap.size by have hq := EB.out.size; have := SE1.out; have := LZ1.out; have := SE2.out; have := LZ2.out; have := SE3.out; have := LZ3.out; have := SZ.out; simp at hq; omega)); (have LOW := hid (show w.heap.size + 1 < w3.heap.size by have := SE1.out; have := LZ1.out; have := SE2.out; have := LZ2.out; have := SE3.out; have := LZ3.out; have := SZ.out; omega)); (have K1b := hid ((K1.out.alloc (.cells #[] 9)).below EB.out (by have := SE1.out; have := LZ1.out; have := SE2.out; have := LZ2.out; have := SE3.out; have := LZ3.out; have := SZ.out; omega))); (have K2b := hid ((K2.out.alloc (.cells #[] 9)).below EB.out (by have := SE1.out; have := LZ1.out; have := SE2.out; have := LZ2.out; have := SE3.out; have := LZ3.out; have := SZ.out; omega))); (have BVb := hid (show Below w.heap.size w w4 from (ext_alloc BV.out (.cells #[] 9)).trans (EB.out.mono (by have := SE1.out; have := LZ1.out; have := SE2.out; have := LZ2.out; have := SE3.out; have := LZ3.out; have := SZ.out; omega)))); (have ZSb := hid ((ZS.out.ext (ext_alloc (Below.refl _ _) (.cells #[] 9))).below EB.out (by have := SE1.out; have := LZ1.out; have := SE2.out; have := LZ2.out; have := SE3.out; have := LZ3.out; have := SZ.out; omega))); (have ZDb := hid ((ZD.out.ext (ext_alloc (Below.refl _ _) (.cells #[] 9))).below EB.out (by have := SE1.out; have := LZ1.out; have := SE2.out; have := LZ2.out; have := SE3.out; have := LZ3.out; have := SZ.out; omega))); (have ZHb := hid ((ZH.out.ext (ext_alloc (Below.refl _ _) (.cells #[] 9))).below EB.out (by have := SE1.out; have := LZ1.out; have := SE2.out; have := LZ2.out; have := SE3.out; have := LZ3.out; have := SZ.out; omega))); (have ZIb := hid ((ZI.out.ext (ext_alloc (Below.refl _ _) (.cells #[] 9))).below EB.out (by have := SE1.out; have := LZ1.out; have := SE2.out; have := LZ2.out; have := SE3.out; have := LZ3.out; have := SZ.out; omega))); (clear K1 K2 BV SZ ZS ZD ZH ZI); (have ZWb := hid (RowZ.mk' q1)); (clear q1 q2 EB cK fK cL fL cM); (obtain ⟨V4, hV4⟩ : ∃ v, v = (w4.setCell ⟨w.heap.size, 10, none⟩ (.slice aW' r.wish.length cW')) := ⟨_, rfl⟩); (have k1 : Blk (w4.setCell ⟨w.heap.size, 10, none⟩ (.slice aW' r.wish.length cW')) w.heap.size (rcV r ⟨(some ⟨gS, 0, none⟩), cS', (some ⟨gD, 0, none⟩), cD', (some ⟨gH, 0, none⟩), cH', aW', cW', aY, cY, aB, cB, aA, cA⟩) 41 := by (have h9 := ((K1b.out).set (o := 10) (.slice aW' r.wish.length cW')); simpa using h9)); (have cK := K1b.out.cell); (have fK := K1b.out.free); (have cL := k1.cell); (have fL := k1.free); (have cM := (k1.alloc (.cells #[] 3)).cell); (have K1 := hid (show Blk V4 w.heap.size (rcV r ⟨(some ⟨gS, 0, none⟩), cS', (some ⟨gD, 0, none⟩), cD', (some ⟨gH, 0, none⟩), cH', aW', cW', aY, cY, aB, cB, aA, cA⟩) 41 by rw [hV4]; exact k1)); (have K2 := hid (show Blk V4 (w.heap.size + 1) zRc 41 by rw [hV4]; exact (K2b.out.setCell (by simp) _))); (have BV := hid (show Below w.heap.size w V4 by rw [hV4]; exact (below_set BVb.out (Nat.le_refl _) _))); (have SE4 := hid (show w4.heap.size = V4.heap.size by rw [hV4]; simp)); (have SZ := hid (show w.heap.size + 1 < V4.heap.size from K2.out.lt)); (clear k1 K1b K2b BVb); (have ZS := hid (show RowZ V.heap.size w1.heap.size V4 108 2 (some ⟨gS, 0, none⟩) r.ss.length cS' (flat r.ss) by rw [hV4]; exact (ZSb.out.set (by have := LOS.out; simp; omega) _))); (have ZD := hid (show RowZ V1.heap.size w2.heap.size V4 108 2 (some ⟨gD, 0, none⟩) r.ds.length cD' (flat r.ds) by rw [hV4]; exact (ZDb.out.set (by have := LOD.out; simp; omega) _))); (have ZH := hid (show RowZ V2.heap.size w3.heap.size V4 45 8 (some ⟨gH, 0, none⟩) r.held.length cH' (flatM LH) by rw [hV4]; exact (ZHb.out.set (by have := LOH.out; simp; omega) _))); (have ZW := hid (show RowZ w3.heap.size w4.heap.size V4 9 1 aW' r.wish.length cW' (flatT r.wish) by rw [hV4]; exact (ZWb.out.set (by have := LOW.out; simp; omega) _))); (have ZI := hid (show InnZM V2.heap.size w3.heap.size V4 LH by rw [hV4]; exact (ZIb.out.set (by have := LOH.out; simp; omega) _))); (clear ZSb ZDb ZHb ZWb ZIb))
  | ((with_reducible refine wpList_newI w4.heap.size aY r.yes.length cY (flatI r.yes) ?_ ?_ ?_ ?_ ?_ ?_ ?_); (· rfl); (· rfl); (· rw [← hV4]; exact Blk.new' _ _ SE4.out); (· rw [← hV4]; exact (RD.out.ext (ext_alloc BV.out _)).y.read); (· exact flatI_one _); (· exact Nat.le_trans HS.out.lY (by omega)); (rw [← hV4]); (intro aY' cY' w5 q1 q2); (have EB := hid (grown_below q2 (by have := SE1.out; have := LZ1.out; have := SE2.out; have := LZ2.out; have := SE3.out; have := LZ3.out; have := SE4.out; have := LZ4.out; have := SZ.out; simp; omega))); (have LZ5 := hid (show w4.heap.size ≤ w5.heap.size by have hq := EB.out.size; have := SE1.out; have := LZ1.out; have := SE2.out; have := LZ2.out; have := SE3.out; have := LZ3.out; have := SE4.out; have := LZ4.out; have := SZ.out; simp at hq; omega)); (have LOY := hid (show w.heap.size + 1 < w4.heap.size by have := SE1.out; have := LZ1.out; have := SE2.out; have := LZ2.out; have := SE3.out; have := LZ3.out; have := SE4.out; have := LZ4.out; have := SZ.out; omega)); (have K1b := hid ((K1.out.alloc (.cells #[] 3)).below EB.out (by have := SE1.out; have := LZ1.out; have := SE2.out; have := LZ2.out; have := SE3.out; have := LZ3.out; have := SE4.out; have := LZ4.out; have := SZ.out; omega))); (have K2b := hid ((K2.out.alloc (.cells #[] 3)).below EB.out (by have := SE1.out; have := LZ1.out; have := SE2.out; have := LZ2.out; have := SE3.out; have := LZ3.out; have := SE4.out; have := LZ4.out; have := SZ.out; omega))); (have BVb := hid (show Below w.heap.size w w5 from (ext_alloc BV.out (.cells #[] 3)).trans (EB.out.mono (by have := SE1.out; have := LZ1.out; have := SE2.out; have := LZ2.out; have := SE3.out; have := LZ3.out; have := SE4.out; have := LZ4.out; have := SZ.out; omega)))); (have ZSb := hid ((ZS.out.ext (ext_alloc (Below.refl _ _) (.cells #[] 3))).below EB.out (by have := SE1.out; have := LZ1.out; have := SE2.out; have := LZ2.out; have := SE3.out; have := LZ3.out; have := SE4.out; have := LZ4.out; have := SZ.out; omega))); (have ZDb := hid ((ZD.out.ext (ext_alloc (Below.refl _ _) (.cells #[] 3))).below EB.out (by have := SE1.out; have := LZ1.out; have := SE2.out; have := LZ2.out; have := SE3.out; have := LZ3.out; have := SE4.out; have := LZ4.out; have := SZ.out; omega))); (have ZHb := hid ((ZH.out.ext (ext_alloc (Below.refl _ _) (.cells #[] 3))).below EB.out (by have := SE1.out; have := LZ1.out; have := SE2.out; have := LZ2.out; have := SE3.out; have := LZ3.out; have := SE4.out; have := LZ4.out; have := SZ.out; omega))); (have ZWb := hid ((ZW.out.ext (ext_alloc (Below.refl _ _) (.cells #[] 3))).below EB.out (by have := SE1.out; have := LZ1.out; have := SE2.out; have := LZ2.out; have := SE3.out; have := LZ3.out; have := SE4.out; have := LZ4.out; have := SZ.out; omega))); (have ZIb := hid ((ZI.out.ext (ext_alloc (Below.refl _ _) (.cells #[] 3))).below EB.out (by have := SE1.out; have := LZ1.out; have := SE2.out; have := LZ2.out; have := SE3.out; have := LZ3.out; have := SE4.out; have := LZ4.out; have := SZ.out; omega))); (clear K1 K2 BV SZ ZS ZD ZH ZW ZI); (have ZYb := hid (RowZ.mk' q1)); (clear q1 q2 EB cK fK cL fL cM); (obtain ⟨V5, hV5⟩ : ∃ v, v = (w5.setCell ⟨w.heap.size, 14, none⟩ (.slice aY' r.yes.length cY')) := ⟨_, rfl⟩); (have k1 : Blk (w5.setCell ⟨w.heap.size, 14, none⟩ (.slice aY' r.yes.length cY')) w.heap.size (rcV r ⟨(some ⟨gS, 0, none⟩), cS', (some ⟨gD, 0, none⟩), cD', (some ⟨gH, 0, none⟩), cH', aW', cW', aY', cY', aB, cB, aA, cA⟩) 41 := by (have h9 := ((K1b.out).set (o := 14) (.slice aY' r.yes.length cY')); simpa using h9)); (have cK := K1b.out.cell); (have fK := K1b.out.free); (have cL := k1.cell); (have fL := k1.free); (skip); (have K1 := hid (show Blk V5 w.heap.size (rcV r ⟨(some ⟨gS, 0, none⟩), cS', (some ⟨gD, 0, none⟩), cD', (some ⟨gH, 0, none⟩), cH', aW', cW', aY', cY', aB, cB, aA, cA⟩) 41 by rw [hV5]; exact k1)); (have K2 := hid (show Blk V5 (w.heap.size + 1) zRc 41 by rw [hV5]; exact (K2b.out.setCell (by simp) _))); (have BV := hid (show Below w.heap.size w V5 by rw [hV5]; exact (below_set BVb.out (Nat.le_refl _) _))); (have SE5 := hid (show w5.heap.size = V5.heap.size by rw [hV5]; simp)); (have SZ := hid (show w.heap.size + 1 < V5.heap.size from K2.out.lt)); (clear k1 K1b K2b BVb); (have ZS := hid (show RowZ V.heap.size w1.heap.size V5 108 2 (some ⟨gS, 0, none⟩) r.ss.length cS' (flat r.ss) by rw [hV5]; exact (ZSb.out.set (by have := LOS.out; simp; omega) _))); (have ZD := hid (show RowZ V1.heap.size w2.heap.size V5 108 2 (some ⟨gD, 0, none⟩) r.ds.length cD' (flat r.ds) by rw [hV5]; exact (ZDb.out.set (by have := LOD.out; simp; omega) _))); (have ZH := hid (show RowZ V2.heap.size w3.heap.size V5 45 8 (some ⟨gH, 0, none⟩) r.held.length cH' (flatM LH) by rw [hV5]; exact (ZHb.out.set (by have := LOH.out; simp; omega) _))); (have ZW := hid (show RowZ w3.heap.size w4.heap.size V5 9 1 aW' r.wish.length cW' (flatT r.wish) by rw [hV5]; exact (ZWb.out.set (by have := LOW.out; simp; omega) _))); (have ZY := hid (show RowZ w4.heap.size w5.heap.size V5 3 1 aY' r.yes.length cY' (flatI r.yes) by rw [hV5]; exact (ZYb.out.set (by have := LOY.out; simp; omega) _))); (have ZI := hid (show InnZM V2.heap.size w3.heap.size V5 LH by rw [hV5]; exact (ZIb.out.set (by have := LOH.out; simp; omega) _))); (clear ZSb ZDb ZHb ZWb ZYb ZIb)))
 rw [← hV5]
 clear cK fK cL fL
 refine (l1Slots_at aB r.best r.best.length cB _ rfl HS.out.lB (RD.out.ext BV.out).b.plain.1 (RD.out.ext BV.out).b.plain.2 (RD.out.ext BV.out).at.hB).mono ?_
 rintro e w6 ⟨gB, cB', rfl, _, oR0, hb⟩
 have oR := RowZ.mk' oR0
 clear oR0
 have LZ6 := hid (show V5.heap.size ≤ w6.heap.size from hb.size)
 have LOB := hid (show w.heap.size + 1 < V5.heap.size from SZ.out)
 have K1b := hid (K1.out.ext hb)
 have K2b := hid (K2.out.ext hb)
 have BVb := hid (ext_trans BV.out hb)
 have ZSb := hid (ZS.out.ext hb)
 have ZDb := hid (ZD.out.ext hb)
 have ZHb := hid (ZH.out.ext hb)
 have ZWb := hid (ZW.out.ext hb)
 have ZYb := hid (ZY.out.ext hb)
 have ZIb := hid (ZI.out.ext hb)
 clear K1 K2 BV SZ ZS ZD ZH ZW ZY ZI
 have ZBb := hid oR
 clear oR hb
 obtain ⟨V6, hV6⟩ : ∃ v, v = (w6.setCell ⟨w.heap.size, 15, none⟩ (.slice (some ⟨gB, 0, none⟩) r.best.length cB')) := ⟨_, rfl⟩
 have k1 : Blk (w6.setCell ⟨w.heap.size, 15, none⟩ (.slice (some ⟨gB, 0, none⟩) r.best.length cB')) w.heap.size (rcV r ⟨(some ⟨gS, 0, none⟩), cS', (some ⟨gD, 0, none⟩), cD', (some ⟨gH, 0, none⟩), cH', aW', cW', aY', cY', (some ⟨gB, 0, none⟩), cB', aA, cA⟩) 41 := by (have h9 := ((K1b.out).set (o := 15) (.slice (some ⟨gB, 0, none⟩) r.best.length cB')); simpa using h9)
 have cK := K1b.out.cell
 have fK := K1b.out.free
 have cL := k1.cell
 have fL := k1.free
 have cM := (k1.alloc (.cells #[] 105)).cell
 have K1 := hid (show Blk V6 w.heap.size (rcV r ⟨(some ⟨gS, 0, none⟩), cS', (some ⟨gD, 0, none⟩), cD', (some ⟨gH, 0, none⟩), cH', aW', cW', aY', cY', (some ⟨gB, 0, none⟩), cB', aA, cA⟩) 41 by rw [hV6]; exact k1)
 have K2 := hid (show Blk V6 (w.heap.size + 1) zRc 41 by rw [hV6]; exact (K2b.out.setCell (by simp) _))
 have BV := hid (show Below w.heap.size w V6 by rw [hV6]; exact (below_set BVb.out (Nat.le_refl _) _))
 have SE6 := hid (show w6.heap.size = V6.heap.size by rw [hV6]; simp)
 have SZ := hid (show w.heap.size + 1 < V6.heap.size from K2.out.lt)
 clear k1 K1b K2b BVb
 have ZS := hid (show RowZ V.heap.size w1.heap.size V6 108 2 (some ⟨gS, 0, none⟩) r.ss.length cS' (flat r.ss) by rw [hV6]; exact (ZSb.out.set (by have := LOS.out; simp; omega) _))
 have ZD := hid (show RowZ V1.heap.size w2.heap.size V6 108 2 (some ⟨gD, 0, none⟩) r.ds.length cD' (flat r.ds) by rw [hV6]; exact (ZDb.out.set (by have := LOD.out; simp; omega) _))
 have ZH := hid (show RowZ V2.heap.size w3.heap.size V6 45 8 (some ⟨gH, 0, none⟩) r.held.length cH' (flatM LH) by rw [hV6]; exact (ZHb.out.set (by have := LOH.out; simp; omega) _))
 have ZW := hid (show RowZ w3.heap.size w4.heap.size V6 9 1 aW' r.wish.length cW' (flatT r.wish) by rw [hV6]; exact (ZWb.out.set (by have := LOW.out; simp; omega) _))
 have ZY := hid (show RowZ w4.heap.size w5.heap.size V6 3 1 aY' r.yes.length cY' (flatI r.yes) by rw [hV6]; exact (ZYb.out.set (by have := LOY.out; simp; omega) _))
 have ZB := hid (show RowZ V5.heap.size w6.heap.size V6 108 2 (some ⟨gB, 0, none⟩) r.best.length cB' (flat r.best) by rw [hV6]; exact (ZBb.out.set (by have := LOB.out; simp; omega) _))
 have ZI := hid (show InnZM V2.heap.size w3.heap.size V6 LH by rw [hV6]; exact (ZIb.out.set (by have := LOH.out; simp; omega) _))
 clear ZSb ZDb ZHb ZWb ZYb ZBb ZIb
 go_wp2_with fail
 try rw [← hV6]
 clear cK fK cL fL
 go_loopw [3, 4] (fun v i wr => ∃ (k g cap : Nat) (A' : List Ap), k ≤ r.acks.length ∧ i = .int .i64 k ∧ v = .slice (some ⟨g, 0, none⟩) k cap ∧ wr.ownsRow w6.heap.size 105 2 (.slice (some ⟨g, 0, none⟩) k cap) k (flatA A') ∧ A'.map (·.1) = r.acks.take k ∧ InnZA w6.heap.size wr.heap.size wr A' ∧ Below w6.heap.size V6 wr) (fun _ i _ => r.acks.length - (intOf i).toNat)
 case atStart => exact ⟨0, w6.heap.size, 0, [], Nat.zero_le _, rfl, rfl, by (have h9 := own_none8 V6 105 2; rw [← SE6.out] at h9; exact h9), by simp, InnZA.nil _ _ _, (Below.refl _ _).alloc (Nat.le_of_eq SE6.out) _⟩
 obtain ⟨k, g, cp0, A', hk, rfl, rfl, hown, hmap, hinn, hbel⟩ := hrel
 have HM := hid hmap
 have HR := hid hown
 have HI := hid hinn
 have HB := hid hbel
 have LH9 := hid (show A'.length = k by have := congrArg List.length hmap; simp at this; omega)
 have LV := hid (show w6.heap.size ≤ V6.heap.size by have := SE6.out; omega)
 have LW := hid (show w.heap.size + 1 < w6.heap.size by have := SZ.out; have := SE6.out; omega)
 have hlen : r.acks.length ≤ 1048576 := HS.out.lA
 clear hmap hown hinn hbel
 by_cases hlt : k < r.acks.length
 ·obtain ⟨m, hm0⟩ : ∃ m, X.A[k]? = some m := ⟨_, List.getElem?_eq_getElem (by rw [XA.out]; exact hlt)⟩
  have RM := hid (show r.acks[k]? = some m.1 by rw [← RD.out.am, List.getElem?_map, hm0]; rfl)
  have MI := hid (RD.out.ai.row m (List.mem_of_getElem? hm0)).read
  have MS := hid (HS.out.nA k m.1 RM.out)
  obtain ⟨ga', e0, _, c6, _⟩ := (RD.out.ext BV.out).a.cellA hm0 (q := 0) (by omega) rfl
  obtain ⟨ga', e1, _, c7, _⟩ := (RD.out.ext BV.out).a.cellA hm0 (q := 1) (by omega) rfl
  have e2 := some_inj_addr e0 e1
  subst e2
  clear e1
  dsimp only at e0
  subst e0
  have C6 := hid (show V6.cell? ⟨ga', k * 2, none⟩ = some (.int .i64 m.1.1) from c6)
  have C7 := hid (show V6.cell? ⟨ga', k * 2 + 1, none⟩ = some (.slice m.2.1 m.1.2.length m.2.2) from c7)
  have GLT := hid (show ga' < w6.heap.size by have := (RD.out.a.lt _ rfl).2; have := LW.out; dsimp only at *; omega)
  clear c6 c7 hm0
  have BW := hid (show Below w.heap.size w wr from BV.out.trans (HB.out.mono (by have := LW.out; omega)))
  have hK0 : BoxS w6.heap.size V6 w.heap.size (rcV r ⟨(some ⟨gS, 0, none⟩), cS', (some ⟨gD, 0, none⟩), cD', (some ⟨gH, 0, none⟩), cH', aW', cW', aY', cY', (some ⟨gB, 0, none⟩), cB', some ⟨ga', 0, none⟩, cA⟩) wr := ⟨K1.out.below HB.out (by have := LW.out; omega), HB.out⟩
  have cW9 := hK0.blk.cell
  have e1 : (0 : Int) ≤ (k : Int) := by omega
  have e2 : (k : Int) < (r.acks.length : Int) := by omega
  go_wp2_with fail
  clear cW9
  refine wp_region_held_drew (S := BoxS w6.heap.size V6 w.heap.size (rcV r ⟨(some ⟨gS, 0, none⟩), cS', (some ⟨gD, 0, none⟩), cD', (some ⟨gH, 0, none⟩), cH', aW', cW', aY', cY', (some ⟨gB, 0, none⟩), cB', some ⟨ga', 0, none⟩, cA⟩)) (by kernel_rfl) hK0.drew (fun hHeld => ?_)
  clear hK0
  simp only [qz, Nat.reduceAdd]
  refine planH.go [0, 1, 2, 3, 4, 5, 6, 8, 9, 10, 11, 12, 13] ?_
  iterate 13 (apply planH.take (at_lit rfl) (by kernel_rfl) (by rfl) (fun _ _ _ h => h) hHeld; (· intro w9 hSw; have hq := hSw.blk.cell; have h6 := (hSw.bel.cell (p := ⟨ga', k * 2, none⟩) GLT.out).trans C6.out; have h7 := (hSw.bel.cell (p := ⟨ga', k * 2 + 1, none⟩) GLT.out).trans C7.out; clear hSw; go_simp; try with_reducible rfl); try simp only [qq])
  refine planH.fin ?_
  refine rdH 7 (by kernel_rfl) (at_lit rfl) (fun K hK => ?_)
  go_simp
  refine hK.out _ _ ⟨hHeld.blk.alloc _, hHeld.bel.alloc (Nat.le_trans LV.out hHeld.bel.size) _⟩ (fun hNew => ?_)
  clear hK K hHeld
  have hHeld := hNew
  clear hNew
  try simp only [qq]
  refine rdH 14 (by kernel_rfl) (at_lit rfl) (fun K hK => ?_)
  rw [if_pos (by rfl)]
  refine wp_newI wr.heap.size m.2.1 m.1.2.length m.2.2 (flatI m.1.2) rfl rfl (Blk.new' _ _ rfl) (MI.out.ext (ext_alloc BW.out.drew _)) (flatI_one _) (Nat.le_trans MS.out (by omega)) ?_
  intro a9 c9 z q1 q2
  have EB := hid (show Below wr.heap.size (wr.drew.alloc (.cells #[] 3)) z from grown_below q2 (by simp))
  have HZ := hid (show Below wr.heap.size wr z from ((Below.refl _ _).drew.alloc (Nat.le_refl _) _).trans EB.out)
  have O9 := hid (show RowZ wr.heap.size z.heap.size z 3 1 a9 m.1.2.length c9 (flatI m.1.2) from RowZ.mk' q1)
  have LB := hid (show w6.heap.size ≤ wr.heap.size from Nat.le_trans LV.out HB.out.size)
  clear q1 q2
  refine hK.out _ _ ⟨hHeld.blk.below EB.out (by have := LB.out; have := LW.out; omega), hHeld.bel.trans (EB.out.mono LB.out)⟩ (fun hNew => ?_)
  clear hK K hHeld EB
  have hHeld := hNew
  clear hNew
  try simp only [qq]
  refine planH.go [15] ?_
  iterate 1 (apply planH.take (at_lit rfl) (by kernel_rfl) (by rfl) (fun _ _ _ h => h) hHeld; (· intro w9 hSw; have hq := hSw.blk.cell; have h6 := (hSw.bel.cell (p := ⟨ga', k * 2, none⟩) GLT.out).trans C6.out; have h7 := (hSw.bel.cell (p := ⟨ga', k * 2 + 1, none⟩) GLT.out).trans C7.out; clear hSw; go_simp; try with_reducible rfl); try simp only [qq])
  refine planH.fin ?_
  refine rdH 16 (by kernel_rfl) (at_lit rfl) (fun K hK => ?_)
  go_simp
  refine hK.out _ _ ⟨hHeld.blk.alloc _, hHeld.bel.alloc (Nat.le_trans LV.out hHeld.bel.size) _⟩ (fun hNew => ?_)
  clear hK K hHeld
  have hHeld := hNew
  clear hNew
  try simp only [qq]
  obtain ⟨Z, hZ⟩ : ∃ Z, Z = z.alloc (.cells #[.int .i64 m.1.1, .slice a9 m.1.2.length c9] 105) := ⟨_, rfl⟩
  have EZ := hid (show Below z.heap.size z Z by rw [hZ]; exact ext_alloc (Below.refl _ _) _)
  have NEWS := hid (show ReadAt Z (some ⟨z.heap.size, 0, none⟩) 1 1 2 (cellsA (m.1, a9, c9)) from
   ⟨rfl, fun e => by simp at e, fun x hx => by
    simp only [Option.some.injEq] at hx
    subst hx
    exact ⟨rfl, by rw [hZ]; exact blk_news (Blk.new z #[.int .i64 m.1.1, .slice a9 m.1.2.length c9] 105)⟩⟩)
  have ZW := hid (own_ext' (own_ext' HR.out HZ.out) EZ.out)
  have ZN := hid (O9.out.ext EZ.out)
  have ZJ := hid ((HI.out.ext HZ.out).ext EZ.out)
  have SZ9 := hid (show w6.heap.size ≤ Z.heap.size from Nat.le_trans LB.out (Nat.le_trans HZ.out.size EZ.out.size))
  have S1 := hid HZ.out.size
  have S2 := hid EZ.out.size
  have GL := hid (show w6.heap.size ≤ g from (HR.out.lt g rfl).1)
  clear O9
  rw [← hZ] at hHeld ⊢
  refine rdH 17 (by kernel_rfl) (at_lit rfl) (fun K hK => ?_)
  rw [if_pos (by rfl)]
  refine wp_appA w6.heap.size (some ⟨g, 0, none⟩) k cp0 (flatA A') (some ⟨z.heap.size, 0, none⟩) 1 1 (cellsA (m.1, a9, c9)) rfl rfl ZW.out NEWS.out (fun u hu => by simp [cellsA] at hu; rcases hu with rfl | rfl <;> rfl) (by omega) SZ9.out ?_
  intro a2 c2 w' r1 r2 r3
  have R1 := hid r1
  have R2 := hid (show Z.grownBy w' (some g) from r2)
  clear r1 r2 r3
  refine hK.out _ _ ⟨(R2.out.block w.heap.size hHeld.blk.lt (by have := GL.out; have := LW.out; simp; omega)).trans hHeld.blk, below_grown hHeld.bel R2.out GL.out SZ9.out⟩ (fun hNew => ?_)
  clear hK K hHeld
  have hHeld := hNew
  clear hNew
  try simp only [qq]
  obtain ⟨g2, cap2, C2, e4, hb9, hn9, _⟩ := own_formk R1.out (fun e => by have := congrArg (fun v => match v with | Value.slice _ n _ => n | _ => 0) e; simp at this)
  simp only [Value.slice.injEq, true_and] at e4
  obtain ⟨rfl, rfl⟩ := e4
  obtain ⟨g3, cap3, C3, e3, _, _, hblk⟩ := own_formk ZW.out (by simp)
  simp only [Value.slice.injEq, Option.some.injEq, Addr.mk.injEq, and_true, true_and] at e3
  obtain ⟨rfl, rfl⟩ := e3
  refine planH.go [18] ?_
  iterate 1 (apply planH.take (at_lit rfl) (by kernel_rfl) (by rfl) (fun _ _ _ h => h) hHeld; (· intro w9 hSw; have hq := hSw.blk.cell; have h6 := (hSw.bel.cell (p := ⟨ga', k * 2, none⟩) GLT.out).trans C6.out; have h7 := (hSw.bel.cell (p := ⟨ga', k * 2 + 1, none⟩) GLT.out).trans C7.out; clear hSw; go_simp; try with_reducible rfl); try simp only [qq])
  refine planH.fin ?_
  refine wpAnyH_done (by kernel_rfl) ?_ _
  have HH := hid hHeld
  clear hHeld
  go_wp2_with fail
  go_roundw
  case rel =>
   refine ⟨k + 1, g2, c2, A' ++ [(m.1, a9, c9)], by omega, by go_num, rfl, ?_, ?_, ?_, HH.out.bel⟩
   ·have := R1.out
    rw [show flatA (A' ++ [(m.1, a9, c9)]) = flatA A' ++ cellsA (m.1, a9, c9) by simp [flatA]]
    exact this
   ·rw [List.map_append, HM.out, List.take_add_one, RM.out]; rfl
   have := (ZJ.out.snoc (m := (m.1, a9, c9)) ZN.out LB.out (Nat.le_refl _) S1.out)
   exact this.kept R2.out hblk (Nat.le_trans S2.out R2.out.size)
  case measure => simp [intOf]; omega
 have hkk : k = r.acks.length := by omega
 subst hkk
 have HF := hid (show A'.map (·.1) = r.acks by rw [HM.out, List.take_length])
 have K1b := hid (K1.out.below HB.out (by have := LW.out; omega))
 have K2b := hid (K2.out.below HB.out (by have := LW.out; omega))
 have BVb := hid (show Below w.heap.size w wr from BV.out.trans (HB.out.mono (by have := LW.out; omega)))
 have ZA := hid (RowZ.mk' HR.out)
 have k1 : Blk (wr.setCell ⟨w.heap.size, 16, none⟩ (.slice (some ⟨g, 0, none⟩) r.acks.length cp0)) w.heap.size (rcV r ⟨(some ⟨gS, 0, none⟩), cS', (some ⟨gD, 0, none⟩), cD', (some ⟨gH, 0, none⟩), cH', aW', cW', aY', cY', (some ⟨gB, 0, none⟩), cB', (some ⟨g, 0, none⟩), cp0⟩) 41 := by (have h9 := (K1b.out.set (o := 16) (.slice (some ⟨g, 0, none⟩) r.acks.length cp0)); simpa using h9)
 have k2 : Blk (wr.setCell ⟨w.heap.size, 16, none⟩ (.slice (some ⟨g, 0, none⟩) r.acks.length cp0)) (w.heap.size + 1) zRc 41 := K2b.out.setCell (by simp) _
 have cK := K1b.out.cell
 have fK := K1b.out.free
 go_wp2_with (first
  | ((with_reducible refine wpList_load_rec w.heap.size (rcV r ⟨(some ⟨gS, 0, none⟩), cS', (some ⟨gD, 0, none⟩), cD', (some ⟨gH, 0, none⟩), cH', aW', cW', aY', cY', (some ⟨gB, 0, none⟩), cB', (some ⟨g, 0, none⟩), cp0⟩) rfl ?_ ?_ ?_); (· rfl); (· exact k1))
  | ((with_reducible refine wpList_store_rec_at (w.heap.size + 1) zRc (rcV r ⟨(some ⟨gS, 0, none⟩), cS', (some ⟨gD, 0, none⟩), cD', (some ⟨gH, 0, none⟩), cH', aW', cW', aY', cY', (some ⟨gB, 0, none⟩), cB', (some ⟨g, 0, none⟩), cp0⟩) rfl rfl ?_ ?_ ?_ ?_ ?_); (· rfl); (· rfl); (· exact k2); (· simp [Value.oneCell'])))
 have hz := setRow_heap _ (w.heap.size + 1) _ (rcV r ⟨(some ⟨gS, 0, none⟩), cS', (some ⟨gD, 0, none⟩), cD', (some ⟨gH, 0, none⟩), cH', aW', cW', aY', cY', (some ⟨gB, 0, none⟩), cB', (some ⟨g, 0, none⟩), cp0⟩) _ _ k2
 refine ret_cell (ty := 41) Tryz.results28 (w.heap.size + 1) (rcV r ⟨(some ⟨gS, 0, none⟩), cS', (some ⟨gD, 0, none⟩), cD', (some ⟨gH, 0, none⟩), cH', aW', cW', aY', cY', (some ⟨gB, 0, none⟩), cB', (some ⟨g, 0, none⟩), cp0⟩) _ ?_ ?_ hz Tryz.underlying41 rfl (by kernel_rfl) ⟨⟨(some ⟨gS, 0, none⟩), cS', (some ⟨gD, 0, none⟩), cD', (some ⟨gH, 0, none⟩), cH', aW', cW', aY', cY', (some ⟨gB, 0, none⟩), cB', (some ⟨g, 0, none⟩), cp0⟩, ⟨LH, A'⟩, colX gH g w1.heap.size w2.heap.size w2.heap.size w3.heap.size w4.heap.size w5.heap.size w6.heap.size w6.heap.size, rfl, ?_, below_setRow' (below_set BVb.out (Nat.le_refl _) _) (by omega) _⟩
 ·rfl
 ·rfl
 clear hz k1 k2 K1 K2 K1b K2b cK fK
 have LD := hid (show Lad w1.heap.size w2.heap.size w2.heap.size w3.heap.size w4.heap.size w5.heap.size w6.heap.size w6.heap.size by have := SE1.out; have := LZ1.out; have := SE2.out; have := LZ2.out; have := SE3.out; have := LZ3.out; have := SE4.out; have := LZ4.out; have := SE5.out; have := LZ5.out; have := SE6.out; have := LZ6.out; exact ⟨by omega, by omega, by omega, by omega, by omega, by omega, by omega⟩)
 have GH := hid (show w2.heap.size ≤ gH ∧ gH < w3.heap.size by have h1 := (ZH.out.lo _ rfl).1; have h2 := ZH.out.hi _ rfl; have := SE1.out; have := LZ1.out; have := SE2.out; have := LZ2.out; have := SE3.out; have := LZ3.out; have := SE4.out; have := LZ4.out; have := SE5.out; have := LZ5.out; have := SE6.out; have := LZ6.out; dsimp only at h1 h2; omega)
 have GA := hid (show w6.heap.size ≤ g from (ZA.out.lo _ rfl).1)
 have LC := hid (show w1.heap.size ≤ w2.heap.size ∧ w2.heap.size ≤ w3.heap.size ∧ w3.heap.size ≤ w4.heap.size ∧ w4.heap.size ≤ w5.heap.size ∧ w5.heap.size ≤ w6.heap.size by have := SE1.out; have := LZ1.out; have := SE2.out; have := LZ2.out; have := SE3.out; have := LZ3.out; have := SE4.out; have := LZ4.out; have := SE5.out; have := LZ5.out; have := SE6.out; have := LZ6.out; omega)
 have LOA := hid (show w.heap.size + 1 < w6.heap.size from LW.out)
 have SA := hid (fun (b : Nat) (hb : w.heap.size + 1 < b) => setRow_other (wr.setCell ⟨w.heap.size, 16, none⟩ (.slice (some ⟨g, 0, none⟩) r.acks.length cp0)) (w.heap.size + 1) b (rcV r ⟨(some ⟨gS, 0, none⟩), cS', (some ⟨gD, 0, none⟩), cD', (some ⟨gH, 0, none⟩), cH', aW', cW', aY', cY', (some ⟨gB, 0, none⟩), cB', (some ⟨g, 0, none⟩), cp0⟩) (by omega))
 have RS9 := hid (((((ZS.out.below HB.out (by have := LC.out; omega))).set (q := ⟨w.heap.size, 16, none⟩) (by have := LOS.out; simp; omega) (.slice (some ⟨g, 0, none⟩) r.acks.length cp0)).same (fun b h1 _ _ => SA.out b (by have := LOS.out; omega))).row (B := w.heap.size) (col := colX gH g w1.heap.size w2.heap.size w2.heap.size w3.heap.size w4.heap.size w5.heap.size w6.heap.size w6.heap.size) (by have := LOS.out; omega) (fun b h1 h2 => (colX_of (by have := GH.out; have := GA.out; have := LC.out; omega) (by have := GH.out; have := GA.out; have := LC.out; omega)).trans (colZ_0 LD.out h2)))
 have RD9 := hid (((((ZD.out.below HB.out (by have := LC.out; omega))).set (q := ⟨w.heap.size, 16, none⟩) (by have := LOD.out; simp; omega) (.slice (some ⟨g, 0, none⟩) r.acks.length cp0)).same (fun b h1 _ _ => SA.out b (by have := LOD.out; omega))).row (B := w.heap.size) (col := colX gH g w1.heap.size w2.heap.size w2.heap.size w3.heap.size w4.heap.size w5.heap.size w6.heap.size w6.heap.size) (by have := LOD.out; omega) (fun b h1 h2 => (colX_of (by have := GH.out; have := GA.out; have := LC.out; omega) (by have := GH.out; have := GA.out; have := LC.out; omega)).trans (colZ_1 LD.out (by rw [SE1.out]; exact h1) h2)))
 have RW9 := hid (((((ZW.out.below HB.out (by have := LC.out; omega))).set (q := ⟨w.heap.size, 16, none⟩) (by have := LOW.out; simp; omega) (.slice (some ⟨g, 0, none⟩) r.acks.length cp0)).same (fun b h1 _ _ => SA.out b (by have := LOW.out; omega))).row (B := w.heap.size) (col := colX gH g w1.heap.size w2.heap.size w2.heap.size w3.heap.size w4.heap.size w5.heap.size w6.heap.size w6.heap.size) (by have := LOW.out; omega) (fun b h1 h2 => (colX_of (by have := GH.out; have := GA.out; have := LC.out; omega) (by have := GH.out; have := GA.out; have := LC.out; omega)).trans (colZ_3 LD.out h1 h2)))
 have RY9 := hid (((((ZY.out.below HB.out (by have := LC.out; omega))).set (q := ⟨w.heap.size, 16, none⟩) (by have := LOY.out; simp; omega) (.slice (some ⟨g, 0, none⟩) r.acks.length cp0)).same (fun b h1 _ _ => SA.out b (by have := LOY.out; omega))).row (B := w.heap.size) (col := colX gH g w1.heap.size w2.heap.size w2.heap.size w3.heap.size w4.heap.size w5.heap.size w6.heap.size w6.heap.size) (by have := LOY.out; omega) (fun b h1 h2 => (colX_of (by have := GH.out; have := GA.out; have := LC.out; omega) (by have := GH.out; have := GA.out; have := LC.out; omega)).trans (colZ_4 LD.out h1 h2)))
 have RB9 := hid (((((ZB.out.below HB.out (by have := LC.out; omega))).set (q := ⟨w.heap.size, 16, none⟩) (by have := LOB.out; simp; omega) (.slice (some ⟨g, 0, none⟩) r.acks.length cp0)).same (fun b h1 _ _ => SA.out b (by have := LOB.out; omega))).row (B := w.heap.size) (col := colX gH g w1.heap.size w2.heap.size w2.heap.size w3.heap.size w4.heap.size w5.heap.size w6.heap.size w6.heap.size) (by have := LOB.out; omega) (fun b h1 h2 => (colX_of (by have := GH.out; have := GA.out; have := LC.out; have := SE5.out; omega) (by have := GH.out; have := GA.out; have := LC.out; have := SE5.out; omega)).trans (colZ_5 LD.out (by rw [SE5.out]; exact h1) h2)))
 have RH9 := hid (((((ZH.out.below HB.out (by have := LC.out; omega))).set (q := ⟨w.heap.size, 16, none⟩) (by have := LOH.out; simp; omega) (.slice (some ⟨g, 0, none⟩) r.acks.length cp0)).same (fun b h1 _ _ => SA.out b (by have := LOH.out; omega))).rowOne (B := w.heap.size) (col := colX gH g w1.heap.size w2.heap.size w2.heap.size w3.heap.size w4.heap.size w5.heap.size w6.heap.size w6.heap.size) (by have := LOH.out; omega) (colX_H _ _ _ _ _ _ _ _ _ _))
 have RA9 := hid ((((ZA.out).set (q := ⟨w.heap.size, 16, none⟩) (by have := LOA.out; simp; omega) (.slice (some ⟨g, 0, none⟩) r.acks.length cp0)).same (fun b h1 _ _ => SA.out b (by have := LOA.out; omega))).rowOne (B := w.heap.size) (col := colX gH g w1.heap.size w2.heap.size w2.heap.size w3.heap.size w4.heap.size w5.heap.size w6.heap.size w6.heap.size) (by have := LOA.out; omega) (colX_A (by have := GH.out; have := GA.out; have := LC.out; omega)))
 have RI9 := hid (InnZM.inn' (B := w.heap.size) (col := colX gH g w1.heap.size w2.heap.size w2.heap.size w3.heap.size w4.heap.size w5.heap.size w6.heap.size w6.heap.size) (t := 7) (InnZM.mk (fun m hm => ((((ZI.out.below HB.out (by have := LC.out; omega)).row m hm).set (q := ⟨w.heap.size, 16, none⟩) (by have := LOH.out; simp; omega) (.slice (some ⟨g, 0, none⟩) r.acks.length cp0)).same (fun b h1 _ _ => SA.out b (by have := LOH.out; omega)))) ZI.out.apart) (by have := LOH.out; omega)
  (fun m hm x hx => (colX_of ((ZI.out.row m hm).ne ZH.out (by decide) x _ hx rfl) (by have := (ZI.out.row m hm).hi x hx; have := GA.out; have := LC.out; omega)).trans (colZ_7 LD.out (by have := ((ZI.out.row m hm).lo x hx).1; have := SE2.out; omega) ((ZI.out.row m hm).hi x hx))))
 have RJ9 := hid (InnZA.inn' (B := w.heap.size) (col := colX gH g w1.heap.size w2.heap.size w2.heap.size w3.heap.size w4.heap.size w5.heap.size w6.heap.size w6.heap.size) (t := 8) (InnZA.mk (fun m hm => (((HI.out.row m hm).set (q := ⟨w.heap.size, 16, none⟩) (by have := LW.out; simp; omega) (.slice (some ⟨g, 0, none⟩) r.acks.length cp0)).same (fun b h1 _ _ => SA.out b (by have := LW.out; omega)))) HI.out.apart) (by have := LW.out; omega)
  (fun m hm x hx => (colX_of (by have := ((HI.out.row m hm).lo x hx).1; have := GH.out; have := LC.out; omega) ((HI.out.row m hm).ne ZA.out (by decide) x _ hx rfl)).trans (colZ_8 LD.out ((HI.out.row m hm).lo x hx).1)))
 exact ⟨RS9.out, RD9.out, RH9.out, HFH.out, RI9.out, RW9.out, RY9.out, RB9.out, RA9.out, HF.out, RJ9.out, RD.out.gd⟩
end Go.Proofs.YtffklmlljekceaaGreat
