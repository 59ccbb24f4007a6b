/- The law's walk: FnExactCountNodes. No condition. -/
import Derived.Test.YtbaadphgbhaboaaCoImp
import Derived.Test.YtbaadphgbhaboaaCoSp
import Derived.Test.YtbaadphgbhaboaaPtLw
namespace Go.Proofs.Ytbaadphgbhaboaa
open Go Go.RowKit

theorem impl_CountNodes_l (x : Pt) (l : PtLay) (W : World) (hx : PtX W W.heap.size x l) (hs : szPt1 x ≤ 1048576) :
    Calls Try.prog 15 #[x.agl l] W fun e w' => e = .returned (.int .i64 ((ptN x : Nat) : Int)) ∧ Below W.heap.size W w' := by
  obtain ⟨d, h, hc⟩ := hx
  exact impl_CountNodes_any (d + 1) x l.A l.n l.c W h hc (by have := ptN_le x; unfold szPt1 at hs; omega)
theorem spec_CountNodes_l (x : Pt) (l : PtLay) (W : World) (hx : PtX W W.heap.size x l) (hs : szPt1 x ≤ 1048576) :
    Calls Try.prog 14 #[x.agl l] W fun e w' => e = .returned (.int .i64 ((ptN x : Nat) : Int)) ∧ Below W.heap.size W w' := by
  obtain ⟨d, h⟩ := hx.read
  exact cnSp_all d x l.A l.n l.c W h (by have := ptN_le x; unfold szPt1 at hs; omega)

def LawC (W : World) (k m : Int) (t : ByteArray) (A : Option Addr) (n c : Nat) (w : World) : Prop := RW 24 w W.heap.size #[.int .i64 k, .int .i64 m, .string t, .slice A n c] ∧ Below W.heap.size W w
theorem LawC.grow {W w w' : World} {k m : Int} {t : ByteArray} {A : Option Addr} {n c : Nat} (h : LawC W k m t A n c w) (hb : Below w.heap.size w w') : LawC W k m t A n c w' := ⟨h.1.below hb h.1.lt, h.2.trans (hb.mono h.2.size)⟩
/-- .. and the copy in block q. -/
def LawD (W : World) (q : Nat) (k m : Int) (t : ByteArray) (ks : List Pt) (A : Option Addr) (n c : Nat) (A' : Option Addr) (n' c' : Nat) (w : World) : Prop :=
  LawC W k m t A n c w ∧ RW 29 w q #[.int .i64 k, .int .i64 m, .string t, .slice A' n' c'] ∧ PtX w w.heap.size (.node k m t ks) ⟨A', n', c'⟩
theorem LawD.grow {W w w' : World} {q : Nat} {k m : Int} {t : ByteArray} {ks : List Pt} {A A' : Option Addr} {n c n' c' : Nat} (h : LawD W q k m t ks A n c A' n' c' w) (hb : Below w.heap.size w w') : LawD W q k m t ks A n c A' n' c' w' :=
  ⟨h.1.grow hb, h.2.1.below hb h.2.1.lt, h.2.2.go hb⟩
abbrev FlatC (W : World) (q : Nat) (k m : Int) (t : ByteArray) (ks : List Pt) (A : Option Addr) (n c : Nat) (A' : Option Addr) (n' c' : Nat) (w : World) : Prop :=
  (w.cell? ⟨W.heap.size, 0, none⟩ = some (.int .i64 k) ∧ w.cell? ⟨W.heap.size, 1, none⟩ = some (.int .i64 m) ∧ w.cell? ⟨W.heap.size, 2, none⟩ = some (.string t) ∧ w.cell? ⟨W.heap.size, 3, none⟩ = some (.slice A n c)) ∧
  (w.cell? ⟨q, 0, none⟩ = some (.int .i64 k) ∧ w.cell? ⟨q, 1, none⟩ = some (.int .i64 m) ∧ w.cell? ⟨q, 2, none⟩ = some (.string t) ∧ w.cell? ⟨q, 3, none⟩ = some (.slice A' n' c')) ∧ LawD W q k m t ks A n c A' n' c' w
theorem LawD.flat {W w : World} {q : Nat} {k m : Int} {t : ByteArray} {ks : List Pt} {A A' : Option Addr} {n c n' c' : Nat} (h : LawD W q k m t ks A n c A' n' c' w) : FlatC W q k m t ks A n c A' n' c' w :=
  ⟨⟨h.1.1.cell 0, h.1.1.cell 1, h.1.1.cell 2, h.1.1.cell 3⟩, ⟨h.2.1.cell 0, h.2.1.cell 1, h.2.1.cell 2, h.2.1.cell 3⟩, h⟩

set_option maxHeartbeats 4000000 in
set_option maxRecDepth 100000 in
theorem walkL_FnExactCountNodes (x : Pt) (l : PtLay) (W : World) (ha : PtW W W.heap.size x l) :
    Calls Try.prog 4 #[x.agl l] W fun e w' => e = .returned (.bool true) ∧ Below W.heap.size W w' := by
  obtain ⟨q, hq⟩ : ∃ q : Int, ((ptN x : Nat) : Int) = q := ⟨_, rfl⟩
  have HSP : Hid (∀ l' w, PtX w w.heap.size x l' → szPt1 x ≤ 1048576 → Calls Try.prog 14 #[x.agl l'] w fun e w' => e = .returned (.int .i64 q) ∧ Below w.heap.size w w') := by
    show ∀ l' w, _ → _ → _
    rw [← hq]
    exact fun l' w h hs => spec_CountNodes_l x l' w h hs
  have HIM : Hid (∀ l' w, PtX w w.heap.size x l' → szPt1 x ≤ 1048576 → Calls Try.prog 15 #[x.agl l'] w fun e w' => e = .returned (.int .i64 q) ∧ Below w.heap.size w w') := by
    show ∀ l' w, _ → _ → _
    rw [← hq]
    exact fun l' w h hs => impl_CountNodes_l x l' w h hs
  clear hq
  obtain ⟨k, m, t, ks⟩ := x
  obtain ⟨A, n, c⟩ := l
  have HA := Lib.hid ha
  have HC := Lib.hid (fun X (e : X = W.alloc (.cells #[.int .i64 k, .int .i64 m, .string t, .slice A n c] 24)) => (show LawC W k m t A n c X from by rw [e]; exact ⟨RW.new _ _ _, below_alloc _ _⟩))
  clear ha
  show Calls Try.prog 4 #[.agg #[.int .i64 k, .int .i64 m, .string t, .slice A n c]] W _
  have hqq : (q != q) = false := by simp
  by_cases c1 : (szPt1 (.node k m t ks) : Int) ≤ 1048576
  · have C1 := Lib.hid c1
    have hs1 := small_Pt1 c1
    have HS := Lib.hid hs1
    have TA := Lib.hid (fun (w : World) (h : LawC W k m t A n c w) => toPattern_l (.node k m t ks) ⟨A, n, c⟩ w (HA.out.go h.2) hs1)
    clear c1 hs1
    have tk1 : True := trivial
    have tk2 : True := trivial
    go_enter Try.func4, Try.ntmps4
    go_wp2_with (go_at_call 9; have g := HC.out _ rfl; have HQ := szPattern_l (.node k m t ks) ⟨A, n, c⟩ 1048576 _ (HA.out.go g.2) (by decide) (by decide); refine Calls.mono HQ ?_; clear HQ; intro e w1 h; obtain ⟨z1, rfl, hz1, l1, u1, hb⟩ := h.fits C1.out (by decide); have d1 : decide (z1 < 0) = false := (by simp; omega); have H1 := Lib.hid (g.grow hb); have p0 : w1.cell? ⟨W.heap.size, 0, none⟩ = some (.int .i64 k) := H1.out.1.cell 0; have p1 : w1.cell? ⟨W.heap.size, 1, none⟩ = some (.int .i64 m) := H1.out.1.cell 1; have p2 : w1.cell? ⟨W.heap.size, 2, none⟩ = some (.string t) := H1.out.1.cell 2; have p3 : w1.cell? ⟨W.heap.size, 3, none⟩ = some (.slice A n c) := H1.out.1.cell 3; clear g h hb hz1 HC)
    go_wp2_with (first
      | (go_at_call 11; have tk := tk1; refine Calls.mono (TA.out _ H1.out) ?_; rintro e w2 ⟨⟨A2, n2, c2⟩, he, h⟩; obtain rfl : e = .returned (.agg #[.int .i64 k, .int .i64 m, .string t, .slice A2 n2 c2]) := he; obtain ⟨hv, hb, _⟩ := h.out; have HV2 := Lib.hid hv; have H2 := Lib.hid (H1.out.grow hb); clear h hv hb tk tk1 p0 p1 p2 p3)
      | (go_at_call 14; refine Calls.mono (HSP.out ⟨A2, n2, c2⟩ _ HV2.out HS.out) ?_; rintro e w3 ⟨rfl, hb⟩; have H3 := Lib.hid (H2.out.grow hb); have p0 : w3.cell? ⟨W.heap.size, 0, none⟩ = some (.int .i64 k) := H3.out.1.cell 0; have p1 : w3.cell? ⟨W.heap.size, 1, none⟩ = some (.int .i64 m) := H3.out.1.cell 1; have p2 : w3.cell? ⟨W.heap.size, 2, none⟩ = some (.string t) := H3.out.1.cell 2; have p3 : w3.cell? ⟨W.heap.size, 3, none⟩ = some (.slice A n c) := H3.out.1.cell 3; clear hb H2 H1 HV2)
      | (go_at_call 11; have tk := tk2; refine Calls.mono (TA.out _ H3.out) ?_; rintro e w4 ⟨⟨A4, n4, c4⟩, he, h⟩; obtain rfl : e = .returned (.agg #[.int .i64 k, .int .i64 m, .string t, .slice A4 n4 c4]) := he; obtain ⟨hv, hb, _⟩ := h.out; have H4 : Hid (LawD W w4.heap.size k m t ks A n c A4 n4 c4 (w4.alloc (.cells #[.int .i64 k, .int .i64 m, .string t, .slice A4 n4 c4] 29))) := ⟨(H3.out.grow hb).grow (below_alloc _ _), RW.new _ _ _, hv.go (below_alloc _ _)⟩; have b0 := H4.out.2.1.cell 0; have b1 := H4.out.2.1.cell 1; have b2 := H4.out.2.1.cell 2; have b3 := H4.out.2.1.cell 3; clear h hv hb tk tk2 p0 p1 p2 p3)
      | (go_at_call 15; refine Calls.mono (HIM.out ⟨A4, n4, c4⟩ _ H4.out.2.2 HS.out) ?_; rintro e w5 ⟨rfl, hb⟩; have H5 := Lib.hid (H4.out.grow hb); clear hb H4 H3 b0 b1 b2 b3))
    have H9 := Lib.hid (H5.out.grow (Below.refl _ _).drew)
    go_region_held3 (fun w => FlatC W w4.heap.size k m t ks A n c A4 n4 c4 w)
      (first | (with_reducible exact H9.out.flat) | (with_reducible exact H10.out.flat) | (with_reducible exact H11.out.flat) | go_keep)
      ((first
        | (go_at_call 11; refine Calls.mono (TA.out _ H9.out.1) ?_; rintro e w6 ⟨⟨A6, n6, c6⟩, he, h⟩; obtain rfl : e = .returned (.agg #[.int .i64 k, .int .i64 m, .string t, .slice A6 n6 c6]) := he; obtain ⟨hv, hb, _⟩ := h.out; have HVC := Lib.hid hv; have H10 := Lib.hid (H9.out.grow hb); clear h hv hb)
        | (go_at_call 13; refine Calls.mono (eqPattern_l (.node k m t ks) ⟨A4, n4, c4⟩ ⟨A6, n6, c6⟩ _ H10.out.2.2 HVC.out) ?_; rintro e w7 ⟨rfl, hb⟩; have H11 := Lib.hid (H10.out.grow hb); clear hb)))
    go_split_ands
    go_wp2_with fail
    go_ret
    exact ⟨rfl, H11.out.1.2⟩
  · have C1 := Lib.hid c1
    clear c1
    go_enter Try.func4, Try.ntmps4
    go_wp2_with (go_at_call 9; have g := HC.out _ rfl; have HQ := szPattern_l (.node k m t ks) ⟨A, n, c⟩ 1048576 _ (HA.out.go g.2) (by decide) (by decide); refine Calls.mono HQ ?_; clear HQ; intro e w1 h; obtain ⟨rfl, hb⟩ := h.long C1.out; have HB1 := Lib.hid (g.grow hb).2; clear g h hb HC)
    go_ret
    exact ⟨rfl, HB1.out⟩
theorem walk_FnExactCountNodes (d : Nat) (x : Pt) (A : Option Addr) (n c : Nat) (W : World) (ha : PtV W 0 W.heap.size d x A n) :
    Calls Try.prog 4 #[x.ag A n c] W fun e w' => e = .returned (.bool true) ∧ Below W.heap.size W w' :=
  walkL_FnExactCountNodes x ⟨A, n, c⟩ W ⟨d, ha⟩
end Go.Proofs.Ytbaadphgbhaboaa
