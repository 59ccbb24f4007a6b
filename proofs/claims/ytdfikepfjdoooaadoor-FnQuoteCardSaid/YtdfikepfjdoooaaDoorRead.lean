/- Contracts of the scanner's readers. Conditions: the scanner's block. -/
import Derived.Test.YtdfikepfjdoooaaDoorScan
import Derived.StillTailTactics
import Derived.Laws.ResultCell
namespace Go.Proofs.YtdfikepfjdoooaaDoor
open Go Go.RowKit

theorem Scan.alloc {w : World} {g k : Nat} {s : ByteArray} (h : Scan w g s k) (o : Obj) : Scan (w.alloc o) g s k := by
  have hl := h.lt
  unfold Scan at h ⊢
  rw [← h]
  exact (World.grownBy_alloc w o none).block g hl (by simp)
theorem Scan.set {w : World} {g k : Nat} {s : ByteArray} (h : Scan w g s k) : Scan (w.setCell ⟨g, 1, none⟩ (.int .i64 ((k : Int) + 1))) g s (k + 1) :=
  h.move 0 0 (k + 1)
/-- Block b is a row of five cells that may be written. -/
def Five (w : World) (b : Nat) (x0 x1 x2 x3 x4 : Value) : Prop := w.heap[b]? = some (.cells #[x0, x1, x2, x3, x4] 46 (0, 0))
theorem Five.c {w : World} {b : Nat} {x0 x1 x2 x3 x4 : Value} (h : Five w b x0 x1 x2 x3 x4) : w.cell? ⟨b, 0, none⟩ = some x0 ∧ w.cell? ⟨b, 1, none⟩ = some x1 ∧ w.cell? ⟨b, 2, none⟩ = some x2 ∧ w.cell? ⟨b, 3, none⟩ = some x3 ∧ w.cell? ⟨b, 4, none⟩ = some x4 :=
  ⟨cell_of_row w b 0 _ _ (0, 0) h, cell_of_row w b 1 _ _ (0, 0) h, cell_of_row w b 2 _ _ (0, 0) h, cell_of_row w b 3 _ _ (0, 0) h, cell_of_row w b 4 _ _ (0, 0) h⟩
theorem Five.f {w : World} {b : Nat} {x0 x1 x2 x3 x4 : Value} (h : Five w b x0 x1 x2 x3 x4) (i : Nat) : w.frozen? ⟨b, i, none⟩ = false := by
  unfold Five at h
  simp [World.frozen?, h]
theorem Five.set {w : World} {b g : Nat} {x0 x1 x2 x3 x4 u : Value} (h : Five w b x0 x1 x2 x3 x4) (hg : b ≠ g) (i : Nat) : Five (w.setCell ⟨g, i, none⟩ u) b x0 x1 x2 x3 x4 :=
  (Below.heap_setCell w ⟨g, i, none⟩ u b hg).trans h
theorem Five.new (W : World) (x0 x1 x2 x3 x4 : Value) : Five (W.alloc (.cells #[x0, x1, x2, x3, x4] 46)) W.heap.size x0 x1 x2 x3 x4 := heap_alloc_new W _

/-- A row of five cells written whole. -/
def put5 (w : World) (b : Nat) (y0 y1 y2 y3 y4 : Value) : World :=
  ((((w.setCell ⟨b, 0, none⟩ y0).setCell ⟨b, 1, none⟩ y1).setCell ⟨b, 2, none⟩ y2).setCell ⟨b, 3, none⟩ y3).setCell ⟨b, 4, none⟩ y4
theorem Five.put {w : World} {b : Nat} {x0 x1 x2 x3 x4 : Value} (h : Five w b x0 x1 x2 x3 x4) (y0 y1 y2 y3 y4 : Value) : Five (put5 w b y0 y1 y2 y3 y4) b y0 y1 y2 y3 y4 :=
  blk_set (blk_set (blk_set (blk_set (blk_set (show w.heap[b]? = _ from h) 0 y0) 1 y1) 2 y2) 3 y3) 4 y4
theorem only_cell (w : World) (g i : Nat) (u : Value) : w.grownBy (w.setCell ⟨g, i, none⟩ u) (some g) := by
  refine ⟨rfl, rfl, rfl, by show w.heap.size ≤ _; simp [World.setCell], fun j hj hne => ?_⟩
  have hj' : j ≠ g := fun e => hne (by rw [e])
  exact Below.heap_setCell w _ _ j hj'
theorem grown_put5 (w : World) (b : Nat) (y0 y1 y2 y3 y4 : Value) : w.grownBy (put5 w b y0 y1 y2 y3 y4) (some b) := by
  unfold put5
  refine only_trans ?_ (only_cell _ b 4 y4)
  refine only_trans ?_ (only_cell _ b 3 y3)
  refine only_trans ?_ (only_cell _ b 2 y2)
  refine only_trans ?_ (only_cell _ b 1 y1)
  exact only_cell w b 0 y0
theorem Scan.put {w : World} {g b k : Nat} {s : ByteArray} (h : Scan w g s k) (hb : g ≠ b) (y0 y1 y2 y3 y4 : Value) : Scan (put5 w b y0 y1 y2 y3 y4) g s k :=
  ((grown_put5 w b y0 y1 y2 y3 y4).block g h.lt (by simp [hb])).trans h
/-- A block that is new may be written. -/
theorem only_new {W w w' : World} {g b : Nat} (h : W.grownBy w (some g)) (hb : W.heap.size ≤ b) (h' : w.grownBy w' (some b)) : W.grownBy w' (some g) :=
  ⟨h'.os.trans h.os, h'.tape.trans h.tape, h'.output.trans h.output, Nat.le_trans h.size h'.size, fun j hj hne => (h'.block j (Nat.lt_of_lt_of_le hj h.size) (by simp; omega)).trans (h.block j hj hne)⟩

set_option maxHeartbeats 1000000 in
set_option maxRecDepth 100000 in
theorem readOperator_any (g k : Nat) (s : ByteArray) (W : World) (hs : Scan W g s k) (hk : k < s.size) (hl : s.size ≤ 1048576) :
    Calls Tryd.prog 116 #[.pointer (some ⟨g, 0, none⟩)] W fun e w' => e = TokRes 4 0 (s.extract k (k + 1)) true ∧ Hid (Scan w' g s (k + 1) ∧ W.grownBy w' (some g)) := by
  have HS := Lib.hid hs
  have HA : Hid (Scan (W.alloc (.cells #[.int .i64 0, .int .i64 0, .string ⟨#[]⟩, .bool false, .bool false] 46)) g s k) := hs.alloc _
  have h0 := HA.out.c0
  have h1 := HA.out.c1
  have f1 := HA.out.f1
  clear hs
  have i0 : (0 : Int) ≤ (k : Int) := by omega
  have i1 : (k : Int) < (s.size : Int) := by omega
  have i2 : (k : Int) + 1 ≤ (s.size : Int) := by omega
  go_enter Tryd.func116, Tryd.ntmps116
  go_wp2_with fail
  have hB := HA.out.set
  have hF : Five _ W.heap.size _ _ _ _ _ := (Five.new W (.int .i64 0) (.int .i64 0) (.string ⟨#[]⟩) (.bool false) (.bool false)).set (g := g) (u := .int .i64 ((k : Int) + 1)) (Nat.ne_of_gt HS.out.lt) 1
  have hG : W.grownBy _ (some g) := only_trans (World.grownBy_alloc W (.cells #[.int .i64 0, .int .i64 0, .string ⟨#[]⟩, .bool false, .bool false] 46) (some g)) (only_set _ g 1 0 0 (.int .i64 ((k : Int) + 1)))
  clear h0 h1 f1 HA
  change W.grownBy ((W.alloc (.cells #[.int .i64 0, .int .i64 0, .string ⟨#[]⟩, .bool false, .bool false] 46)).setCell ⟨g, 1, none⟩ (.int .i64 ((k : Int) + 1))) (some g) at hG
  generalize ((W.alloc (.cells #[.int .i64 0, .int .i64 0, .string ⟨#[]⟩, .bool false, .bool false] 46)).setCell ⟨g, 1, none⟩ (.int .i64 ((k : Int) + 1))) = w1 at hB hF hG ⊢
  have h0 := hB.c0
  have h1 := hB.c1
  change w1.cell? ⟨g, 1, none⟩ = some (.int .i64 ((k : Int) + 1)) at h1
  have HB := Lib.hid hB
  have HF := Lib.hid hF
  have HG := Lib.hid hG
  clear hB hF hG
  have i3 : (k : Int) + 1 - 1 = (k : Int) := by omega
  have iw : IntKind.i64.wrap (k : Int) = (k : Int) := IntWalk.i64_in _ (by omega)
  have i4 : (k : Int) ≤ (k : Int) + 1 := by omega
  have i5 : ((k : Int) + 1).toNat = k + 1 := by omega
  go_still_tail 15, (by kernel_rfl)
  change wpList _ _ _ _ _ w1.drew
  have hF2 : Five w1.drew W.heap.size _ _ _ _ _ := HF.out
  have hB2 : Scan w1.drew g s (k + 1) := HB.out
  have hG2 : W.grownBy w1.drew (some g) := only_trans HG.out (only_draw _ g 1)
  clear h0 h1 HB HF HG
  generalize w1.drew = w2 at hF2 hB2 hG2 ⊢
  obtain ⟨c0, c1, c2, c3, c4⟩ := hF2.c
  have e0 := hF2.f 0
  have e1 := hF2.f 1
  have e2 := hF2.f 2
  have e3 := hF2.f 3
  have e4 := hF2.f 4
  have HB := Lib.hid hB2
  have HF := Lib.hid hF2
  have HG := Lib.hid hG2
  clear hF2 hB2 hG2 i3 iw i4 i5
  go_wp2_with fail
  have hF := HF.out.put (.int .i64 4) (.int .i64 0) (.string (s.extract k (k + 1))) (.bool false) (.bool false)
  have hB := HB.out.put (Nat.ne_of_lt HS.out.lt) (.int .i64 4) (.int .i64 0) (.string (s.extract k (k + 1))) (.bool false) (.bool false)
  have hG := only_new HG.out (Nat.le_refl _) (grown_put5 w2 W.heap.size (.int .i64 4) (.int .i64 0) (.string (s.extract k (k + 1))) (.bool false) (.bool false))
  clear c0 c1 c2 c3 c4 e0 e1 e2 e3 e4 HB HF HG
  change bodyPost _ _ _ _ _ (put5 w2 W.heap.size (.int .i64 4) (.int .i64 0) (.string (s.extract k (k + 1))) (.bool false) (.bool false))
  generalize put5 w2 W.heap.size (.int .i64 4) (.int .i64 0) (.string (s.extract k (k + 1))) (.bool false) (.bool false) = w3 at hF hB hG ⊢
  obtain ⟨c0, c1, c2, c3, c4⟩ := hF.c
  refine bodyPost_ret (v := .tuple #[.agg #[.int .i64 4, .int .i64 0, .string (s.extract k (k + 1)), .bool false, .bool false], .bool true]) (by rw [results_cell_tmp rfl]; go_simp) rfl ⟨rfl, Lib.hid ⟨hB, hG⟩⟩
end Go.Proofs.YtdfikepfjdoooaaDoor
