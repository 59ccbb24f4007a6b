/- The law's walk: FnExactDeferredNames. Condition: the tables hold what the program's text lays. -/
import Derived.Test.YtjeiiljdhnmofaaDoorDefImpl
import Derived.Test.YtjeiiljdhnmofaaDoorDefSpec
import Derived.Test.YtjeiiljdhnmofaaDoorRowS
import Derived.Test.YtjeiiljdhnmofaaDoorPtHeld
import Derived.Test.YtjeiiljdhnmofaaDoorPtsToO
import Derived.Test.YtjeiiljdhnmofaaDoorPtLaw
import Derived.Test.YtjeiiljdhnmofaaDoorCards
import Derived.Stop.LaidErr
namespace Go.Proofs.YtjeiiljdhnmofaaDoor
open Go Go.RowKit

theorem RowO.keepO {w w' : World} {B C lo hi : Nat} {A : Option Addr} {xs : List ByteArray} (h : RowO w B C A xs) (hk : KeepO lo hi w w') (hd : C ≤ lo ∨ hi ≤ B) : RowO w' B C A xs := fun hn => by
  obtain ⟨g, cs, e, h1, h2, h3, h4, h5⟩ := h hn
  exact ⟨g, cs, e, h1, h2, (hk.block g h3.lt (by omega)).trans h3, h4, h5⟩
theorem LawP.below {W w w' : World} {k m : Int} {t : ByteArray} {A : Option Addr} {n c B : Nat} (h : LawP W k m t A n c w) (hb : Below B w w') (hB : W.heap.size < B) : LawP W k m t A n c w' := ⟨h.1.below hb hB, h.2.trans (hb.mono (by omega))⟩
/-- The law's tree and the model's answer. -/
def SD0 (W : World) (k m : Int) (t : ByteArray) (A : Option Addr) (n c : Nat) (xs : List ByteArray) (A0 : Option Addr) (s2 s3 s4 : Nat) (w : World) : Prop :=
  LawP W k m t A n c w ∧ RowO w s2 s3 A0 xs ∧ (W.heap.size < s2 ∧ s2 ≤ s3 ∧ s3 ≤ s4 ∧ s4 < w.heap.size)
theorem SD0.below {W w w' : World} {k m : Int} {t : ByteArray} {A A0 : Option Addr} {n c s2 s3 s4 B : Nat} {xs : List ByteArray} (h : SD0 W k m t A n c xs A0 s2 s3 s4 w) (hb : Below B w w') (hB : s4 < B) : SD0 W k m t A n c xs A0 s2 s3 s4 w' := by
  obtain ⟨h1, h2, h3⟩ := h
  have := hb.size
  exact ⟨h1.below hb (by omega), h2.below hb (by omega), by omega⟩
theorem SD0.keepO {W w w' : World} {k m : Int} {t : ByteArray} {A A0 : Option Addr} {n c s2 s3 s4 : Nat} {xs : List ByteArray} (h : SD0 W k m t A n c xs A0 s2 s3 s4 w) (hk : KeepO s3 s4 w w') : SD0 W k m t A n c xs A0 s2 s3 s4 w' := by
  obtain ⟨h1, h2, h3⟩ := h
  have := hk.size
  exact ⟨h1.below (hk.below (Nat.le_refl s3) (by omega)) (by omega), h2.keepO hk (.inl (Nat.le_refl _)), by omega⟩
/-- .. its copy in block s4, and the program's answer. -/
def SD1 (W : World) (k m : Int) (t : ByteArray) (ks : List Pt) (A : Option Addr) (n c d : Nat) (xs : List ByteArray) (A0 A1 : Option Addr) (gB s2 s3 s4 s6 : Nat) (w : World) : Prop :=
  SD0 W k m t A n c xs A0 s2 s3 s4 w ∧ RW 29 w s4 #[.int .i64 k, .int .i64 m, .string t, .slice (some ⟨gB, 0, none⟩) n n] ∧ PtO w d s3 s4 (some ⟨gB, 0, none⟩) n ks ∧ t.size ≤ maxLen ∧ RowO w (s4 + 1) s6 A1 xs ∧ s6 ≤ w.heap.size
theorem SD1.grow {W w w' : World} {k m : Int} {t : ByteArray} {ks : List Pt} {A A0 A1 : Option Addr} {n c d gB s2 s3 s4 s6 : Nat} {xs : List ByteArray} (h : SD1 W k m t ks A n c d xs A0 A1 gB s2 s3 s4 s6 w) (hb : Below w.heap.size w w') : SD1 W k m t ks A n c d xs A0 A1 gB s2 s3 s4 s6 w' := by
  obtain ⟨h1, h2, h3, h4, h5, h6⟩ := h
  have hs := h1.2.2
  have := hb.size
  exact ⟨h1.below hb (by omega), h2.below hb h2.lt, h3.below hb (by omega) (Nat.le_refl _), h4, h5.below hb h6, by omega⟩
theorem SD1.tree {W w : World} {k m : Int} {t : ByteArray} {ks : List Pt} {A A0 A1 : Option Addr} {n c d gB s2 s3 s4 s6 : Nat} {xs : List ByteArray} (h : SD1 W k m t ks A n c d xs A0 A1 gB s2 s3 s4 s6 w) : PtV w 0 w.heap.size d (.node k m t ks) (some ⟨gB, 0, none⟩) n :=
  ⟨h.2.2.2.1, h.2.2.1.tree.more (Nat.zero_le _) (by have := h.1.2.2; omega)⟩
abbrev FlatD (W : World) (k m : Int) (t : ByteArray) (ks : List Pt) (A : Option Addr) (n c d : Nat) (xs : List ByteArray) (A0 A1 : Option Addr) (gB s2 s3 s4 s6 : Nat) (w : World) : Prop :=
  (w.cell? ⟨W.heap.size, 0, none⟩ = some (.int .i64 k) ∧ w.cell? ⟨W.heap.size, 1, none⟩ = some (.int .i64 m) ∧ w.cell? ⟨W.heap.size, 2, none⟩ = some (.string t) ∧ w.cell? ⟨W.heap.size, 3, none⟩ = some (.slice A n c)) ∧
  (w.cell? ⟨s4, 0, none⟩ = some (.int .i64 k) ∧ w.cell? ⟨s4, 1, none⟩ = some (.int .i64 m) ∧ w.cell? ⟨s4, 2, none⟩ = some (.string t) ∧ w.cell? ⟨s4, 3, none⟩ = some (.slice (some ⟨gB, 0, none⟩) n n)) ∧ SD1 W k m t ks A n c d xs A0 A1 gB s2 s3 s4 s6 w
theorem SD1.flat {W w : World} {k m : Int} {t : ByteArray} {ks : List Pt} {A A0 A1 : Option Addr} {n c d gB s2 s3 s4 s6 : Nat} {xs : List ByteArray} (h : SD1 W k m t ks A n c d xs A0 A1 gB s2 s3 s4 s6 w) : FlatD W k m t ks A n c d xs A0 A1 gB s2 s3 s4 s6 w :=
  ⟨⟨h.1.1.1.cell 0, h.1.1.1.cell 1, h.1.1.1.cell 2, h.1.1.1.cell 3⟩, ⟨h.2.1.cell 0, h.2.1.cell 1, h.2.1.cell 2, h.2.1.cell 3⟩, h⟩

open Classical in
theorem def_len (x : Pt) : (if ValidP x then namesC [] (ptPre x) else []).length ≤ 60 := by
  split
  · rename_i h
    have h1 := namesC_len (ptPre x) []
    rw [len_pre] at h1
    have h2 := h.1
    simp only [List.length_nil] at h1
    omega
  · simp

set_option maxHeartbeats 4000000 in
set_option maxRecDepth 100000 in
theorem walk_FnExactDeferredNames (d : Nat) (x : Pt) (A : Option Addr) (n c : Nat) (W : World) (ha : PtV W 0 W.heap.size d x A n) (hL : laidMetH Tryd.prog Rows.fnExactDeferredNamesRow.laid W) :
    Calls Tryd.prog 9 #[x.ag A n c] W fun e w' => e = .returned (.bool true) ∧ Below W.heap.size W w' := by
  have h1 : laidMet Tryd.prog [("loop.example/g00873/impl.byteClasses", Rows.laid_loop_example_g00873_impl_byteClasses), ("loop.example/g00873/impl.patternForms", Rows.laid_loop_example_g00873_impl_patternForms)] W := hL
  have hT : Classes W := Lib.tabIs_of_head (rest := [("loop.example/g00873/impl.patternForms", Rows.laid_loop_example_g00873_impl_patternForms)]) gClasses (by kernel_rfl) Tryd.underlying112 Tryd.underlying5 (by kernel_rfl) (by kernel_rfl) h1
  have hF : Forms W := forms_of h1.tail
  have HT := Lib.hid hT
  have HFM := Lib.hid hF
  clear hL hT hF h1
  obtain ⟨xs, hxs⟩ : ∃ xs, (open Classical in if ValidP x then namesC [] (ptPre x) else []) = xs := ⟨_, rfl⟩
  have HXN : Hid (xs.length ≤ 60) := by show _ ≤ _; rw [← hxs]; exact def_len x
  have HSP : Hid (∀ (A' : Option Addr) (n' c' : Nat) w, PtV w 0 w.heap.size d x A' n' → Calls Tryd.prog 37 #[x.ag A' n' c'] w (RetsO w xs)) := by
    show ∀ (A' : Option Addr) (n' c' : Nat) w, _ → _
    intro A' n' c' w h
    rw [← hxs]
    exact spec_DeferredNames_any d x A' n' c' w h
  have HIM : Hid (∀ (A' : Option Addr) (n' c' : Nat) w, PtV w 0 w.heap.size d x A' n' → Classes w → Forms w → Calls Tryd.prog 38 #[x.ag A' n' c'] w (RetsO w xs)) := by
    show ∀ (A' : Option Addr) (n' c' : Nat) w, _ → _ → _ → _
    intro A' n' c' w h h1 h2
    rw [← hxs]
    exact impl_DeferredNames_any d x A' n' c' w h h1 h2
  clear hxs
  obtain ⟨k, m, t, ks⟩ := x
  have HA := Lib.hid ha
  have HC := Lib.hid (fun X (e : X = W.alloc (.cells #[.int .i64 k, .int .i64 m, .string t, .slice A n c] 24)) => (show LawP W k m t A n c X from by rw [e]; exact ⟨RW.new _ _ _, below_alloc _ _⟩))
  clear ha
  show Calls Tryd.prog 9 #[.agg #[.int .i64 k, .int .i64 m, .string t, .slice A n c]] W _
  by_cases c1 : (ptSz (.node k m t ks) : Int) ≤ 1048576
  · have C1 := Lib.hid c1
    have TA := Lib.hid (fun (w : World) (h : LawP W k m t A n c w) => toPatternO_any d (.node k m t ks) A n c w (HA.out.go h.2) (by omega))
    have HCT : Hid (1 + 3 * ptCnts ks ≤ 16777000) := by
      show _ ≤ _
      have h1 := pcnts_le_szs ks
      have h2 := ptSz_eq (.node k m t ks)
      change ptSz (.node k m t ks) = t.size + ptSzs ks at h2
      omega
    clear c1
    obtain ⟨mq, hmq⟩ : ∃ q : Nat, 1 + 3 * ptCnts ks = q := ⟨_, rfl⟩
    have HMK : Hid (∀ (gB lo hi : Nat) w, PtO w d lo hi (some ⟨gB, 0, none⟩) n ks → hi ≤ w.heap.size → Calls Tryd.prog 27 #[.agg #[.int .i64 k, .int .i64 m, .string t, .slice (some ⟨gB, 0, none⟩) n n], .int .i64 1] w fun e w' => e = .returned (.int .i64 (mq : Int)) ∧ KeepO lo hi w w') := by
      show ∀ (gB lo hi : Nat) w, _ → _ → _
      intro gB lo hi w h hh
      rw [← hmq]
      exact (markPattern_any d lo hi (.node k m t ks) (some ⟨gB, 0, none⟩) n n w h hh HCT.out).mono fun e w' ⟨h1, h2⟩ => ⟨h1, h2.out.2⟩
    have hq0 : decide ((mq : Int) < 0) = false := by first | (simp; done) | (simp; omega)
    have hx0 : decide (((1 + xs.length : Nat) : Int) < 0) = false := by first | (simp; done) | (simp; omega)
    have HXN1 : Hid (xs.length ≤ 1048577) := by show _ ≤ _; have := HXN.out; omega
    have HXN2 : Hid (xs.length ≤ 9223372036854775807) := by show _ ≤ _; have := HXN.out; omega
    clear hmq
    have tk1 : True := trivial
    have tk2 : True := trivial
    have tk3 : True := trivial
    go_enter Tryd.func9, Tryd.ntmps9
    go_wp2_with (go_at_call 10; have g := HC.out _ rfl; have HQ := szPattern_any d (.node k m t ks) A n c 1048576 _ (HA.out.go g.2) (by decide) (by decide); refine Calls.mono HQ ?_; clear HQ; intro e w1 h; obtain ⟨z1, rfl, hz1, l1, u1, hb⟩ := h.fits C1.out (by decide); have d1 : decide (z1 < 0) = false := (by simp; omega); have H1 := Lib.hid (g.grow hb); have HZ1 : Hid (W.heap.size < w1.heap.size) := H1.out.1.lt; have p0 : w1.cell? ⟨W.heap.size, 0, none⟩ = some (.int .i64 k) := H1.out.1.cell 0; have p1 : w1.cell? ⟨W.heap.size, 1, none⟩ = some (.int .i64 m) := H1.out.1.cell 1; have p2 : w1.cell? ⟨W.heap.size, 2, none⟩ = some (.string t) := H1.out.1.cell 2; have p3 : w1.cell? ⟨W.heap.size, 3, none⟩ = some (.slice A n c) := H1.out.1.cell 3; clear g h hb hz1 HC)
    go_wp2_with (first
      | (go_at_call 12; have tk := tk1; refine Calls.mono (TA.out _ H1.out) ?_; rintro e w2 ⟨gA, he, h⟩; obtain rfl : e = .returned (.agg #[.int .i64 k, .int .i64 m, .string t, .slice (some ⟨gA, 0, none⟩) n n]) := he; obtain ⟨hv, hb⟩ := h.out; have H2 := Lib.hid (H1.out.grow hb); have HV2 : Hid (PtV w2 0 w2.heap.size d (.node k m t ks) (some ⟨gA, 0, none⟩) n) := ⟨hv.1, hv.2.tree.zero⟩; have HZ2 : Hid (W.heap.size < w2.heap.size) := H2.out.1.lt; clear h hv hb tk tk1 p0 p1 p2 p3)
      | (go_at_call 37; refine Calls.mono (HSP.out (some ⟨gA, 0, none⟩) n n _ HV2.out) ?_; rintro e w3 ⟨A0, q0, rfl, hr, hb⟩; have HR0 := Lib.hid hr; have HS3 : Hid (w2.heap.size ≤ w3.heap.size) := hb.size; have H3 := Lib.hid (H2.out.grow hb); have p0 : w3.cell? ⟨W.heap.size, 0, none⟩ = some (.int .i64 k) := H3.out.1.cell 0; have p1 : w3.cell? ⟨W.heap.size, 1, none⟩ = some (.int .i64 m) := H3.out.1.cell 1; have p2 : w3.cell? ⟨W.heap.size, 2, none⟩ = some (.string t) := H3.out.1.cell 2; have p3 : w3.cell? ⟨W.heap.size, 3, none⟩ = some (.slice A n c) := H3.out.1.cell 3; clear hb hr H2 H1 HV2)
      | (go_at_call 12; have tk := tk2; refine Calls.mono (TA.out _ H3.out) ?_; rintro e w4 ⟨gB, he, h⟩; obtain rfl : e = .returned (.agg #[.int .i64 k, .int .i64 m, .string t, .slice (some ⟨gB, 0, none⟩) n n]) := he; obtain ⟨hv, hb⟩ := h.out; have H4 : Hid (SD0 W k m t A n c xs A0 w2.heap.size w3.heap.size w4.heap.size (w4.alloc (.cells #[.int .i64 k, .int .i64 m, .string t, .slice (some ⟨gB, 0, none⟩) n n] 29)) ∧ RW 29 (w4.alloc (.cells #[.int .i64 k, .int .i64 m, .string t, .slice (some ⟨gB, 0, none⟩) n n] 29)) w4.heap.size #[.int .i64 k, .int .i64 m, .string t, .slice (some ⟨gB, 0, none⟩) n n] ∧ (t.size ≤ maxLen ∧ PtO (w4.alloc (.cells #[.int .i64 k, .int .i64 m, .string t, .slice (some ⟨gB, 0, none⟩) n n] 29)) d w3.heap.size w4.heap.size (some ⟨gB, 0, none⟩) n ks)) := ⟨⟨(H3.out.grow hb).grow (below_alloc _ _), (HR0.out.below hb (Nat.le_refl _)).below (below_alloc _ _) hb.size, HZ2.out, HS3.out, hb.size, by simp⟩, RW.new _ _ _, hv.1, hv.2.below (below_alloc _ _) (Nat.le_refl _) (Nat.le_refl _)⟩; clear h hv hb tk tk2 p0 p1 p2 p3)
      | (go_at_call 38; have tk := tk3; refine Calls.mono (HIM.out (some ⟨gB, 0, none⟩) n n _ ⟨H4.out.2.2.1, H4.out.2.2.2.tree.more (Nat.zero_le _) (by simp)⟩ (classes_go HT.out H4.out.1.1.2) (HFM.out.go H4.out.1.1.2)) ?_; rintro e w5 ⟨A1, q1, rfl, hr, hb⟩; have H5 : Hid (SD1 W k m t ks A n c d xs A0 A1 gB w2.heap.size w3.heap.size w4.heap.size w5.heap.size w5) := ⟨H4.out.1.below hb (by simp), H4.out.2.1.below hb H4.out.2.1.lt, H4.out.2.2.2.below hb (by simp) (Nat.le_refl _), H4.out.2.2.1, (by simpa using hr), Nat.le_refl _⟩; clear hb hr H4 H3 HR0 tk tk3)
      | (go_at_call 39; refine Calls.mono (eq_rowsO _ _ H5.out.2.2.2.2.1 H5.out.1.2.1 (Nat.le_refl _) (by have := H5.out.1.2.2; omega) (by have := HXN.out; omega)) ?_; rintro e w6 ⟨rfl, hb⟩; have H6 := Lib.hid (H5.out.grow hb); clear hb H5))
    have H9 := Lib.hid (H6.out.grow (Below.refl _ _).drew)
    go_region_held3 (fun w => FlatD W k m t ks A n c d xs A0 A1 gB w2.heap.size w3.heap.size w4.heap.size w5.heap.size w)
      (first | exact H9.out.flat | exact H10.out.flat | exact H11.out.flat | go_keep)
      ((first
        | (go_at_call 12; refine Calls.mono (TA.out _ H9.out.1.1) ?_; rintro e w6 ⟨gC, he, h⟩; obtain rfl : e = .returned (.agg #[.int .i64 k, .int .i64 m, .string t, .slice (some ⟨gC, 0, none⟩) n n]) := he; obtain ⟨hv, hb⟩ := h.out; have HVC : Hid (PtV w6 0 w6.heap.size d (.node k m t ks) (some ⟨gC, 0, none⟩) n) := ⟨hv.1, hv.2.tree.zero⟩; have H10 := Lib.hid (H9.out.grow hb); clear h hv hb)
        | (go_at_call 14; refine Calls.mono (eqPattern_same d (.node k m t ks) (some ⟨gB, 0, none⟩) (some ⟨gC, 0, none⟩) n n n _ H10.out.tree HVC.out) ?_; rintro e w7 ⟨rfl, hb⟩; have H11 := Lib.hid (H10.out.grow hb); clear hb)))
    go_split_ands
    go_wp2_with (go_at_call 27; refine Calls.mono (HMK.out gB w3.heap.size w4.heap.size _ H11.out.2.2.1 (by have := H11.out.1.2.2; omega)) ?_; rintro e w8 ⟨rfl, hk⟩; have H12 : Hid (SD0 W k m t A n c xs A0 w2.heap.size w3.heap.size w4.heap.size w8 ∧ RowO w8 (w4.heap.size + 1) w5.heap.size A1 xs ∧ w5.heap.size ≤ w8.heap.size) := ⟨H11.out.1.keepO hk, H11.out.2.2.2.2.1.keepO hk (.inr (by omega)), Nat.le_trans H11.out.2.2.2.2.2 hk.size⟩; clear hk)
    go_wp2_with (go_at_call 39; refine Calls.mono (eq_rowsO _ _ H12.out.2.1 H12.out.1.2.1 H12.out.2.2 (by have := H12.out.1.2.2; omega) HXN2.out) ?_; rintro e w9 ⟨rfl, hb⟩; have H13 : Hid (SD0 W k m t A n c xs A0 w2.heap.size w3.heap.size w4.heap.size w9 ∧ RowO w9 (w4.heap.size + 1) w5.heap.size A1 xs ∧ w5.heap.size ≤ w9.heap.size) := ⟨H12.out.1.below hb H12.out.1.2.2.2.2.2, H12.out.2.1.below hb H12.out.2.2, Nat.le_trans H12.out.2.2 hb.size⟩; clear hb)
    go_wp2_with (go_at_call 40; refine Calls.mono (mark_rowO _ H13.out.2.1 H13.out.1.2.2.2.2.2 H13.out.2.2 HXN1.out) ?_; rintro e w10 ⟨rfl, hb, hm⟩; have H14 : Hid (SD0 W k m t A n c xs A0 w2.heap.size w3.heap.size w4.heap.size w10) := H13.out.1.below hb (Nat.lt_succ_self _); have M10 := Lib.hid hm; clear hb hm)
    go_wp2_with (go_at_call 41; refine Calls.mono (held_rowO _ M10.out (Nat.le_refl _) HXN1.out) ?_; rintro e w11 ⟨rfl, hb⟩; have H15 : Hid (SD0 W k m t A n c xs A0 w2.heap.size w3.heap.size w4.heap.size w11) := H14.out.below hb H14.out.2.2.2.2.2; have M11 := Lib.hid ((M10.out.below hb).more hb.size); have p0 : w11.cell? ⟨W.heap.size, 0, none⟩ = some (.int .i64 k) := H15.out.1.1.cell 0; have p1 : w11.cell? ⟨W.heap.size, 1, none⟩ = some (.int .i64 m) := H15.out.1.1.cell 1; have p2 : w11.cell? ⟨W.heap.size, 2, none⟩ = some (.string t) := H15.out.1.1.cell 2; have p3 : w11.cell? ⟨W.heap.size, 3, none⟩ = some (.slice A n c) := H15.out.1.1.cell 3; clear hb)
    go_wp2_with (go_at_call 12; refine Calls.mono (TA.out _ H15.out.1) ?_; rintro e w12 ⟨gD, he, h⟩; obtain rfl : e = .returned (.agg #[.int .i64 k, .int .i64 m, .string t, .slice (some ⟨gD, 0, none⟩) n n]) := he; obtain ⟨hv, hb⟩ := h.out; have HVD : Hid (PtV w12 0 w12.heap.size d (.node k m t ks) (some ⟨gD, 0, none⟩) n) := ⟨hv.1, hv.2.tree.zero⟩; have H16 : Hid (SD0 W k m t A n c xs A0 w2.heap.size w3.heap.size w4.heap.size w12) := H15.out.below hb H15.out.2.2.2.2.2; have M12 := Lib.hid ((M11.out.below hb).more hb.size); clear h hv hb p0 p1 p2 p3)
    go_wp2_with (go_at_call 38; refine Calls.mono (HIM.out (some ⟨gD, 0, none⟩) n n _ HVD.out (classes_go HT.out H16.out.1.2) (HFM.out.go H16.out.1.2)) ?_; rintro e w13 ⟨A2, q2, rfl, hr, hb⟩; have HR2 := Lib.hid hr; have H17 : Hid (SD0 W k m t A n c xs A0 w2.heap.size w3.heap.size w4.heap.size w13) := H16.out.below hb H16.out.2.2.2.2.2; have M13 := Lib.hid ((M12.out.below hb).more hb.size); clear hb hr)
    go_wp2_with (go_at_call 39; refine Calls.mono (eq_rowsO _ _ HR2.out H17.out.2.1 (Nat.le_refl _) (by have := H17.out.2.2; omega) HXN2.out) ?_; rintro e w14 ⟨rfl, hb⟩; have H18 : Hid (SD0 W k m t A n c xs A0 w2.heap.size w3.heap.size w4.heap.size w14) := H17.out.below hb H17.out.2.2.2.2.2; have M14 := Lib.hid ((M13.out.below hb).more hb.size); clear hb)
    go_wp2_with (go_at_call 41; refine Calls.mono (held_rowO _ M14.out (Nat.le_refl _) HXN1.out) ?_; rintro e w15 ⟨rfl, hb⟩; have H19 : Hid (SD0 W k m t A n c xs A0 w2.heap.size w3.heap.size w4.heap.size w15) := H18.out.below hb H18.out.2.2.2.2.2; clear hb)
    go_ret
    exact ⟨rfl, H19.out.1.2⟩
  · have C1 := Lib.hid c1
    clear c1
    go_enter Tryd.func9, Tryd.ntmps9
    go_wp2_with (go_at_call 10; have g := HC.out _ rfl; have HQ := szPattern_any d (.node k m t ks) A n c 1048576 _ (HA.out.go g.2) (by decide) (by decide); refine Calls.mono HQ ?_; clear HQ; intro e w1 h; obtain ⟨rfl, hb⟩ := h.long C1.out; have HB1 := Lib.hid (g.grow hb).2; clear g h hb HC)
    go_ret
    exact ⟨rfl, HB1.out⟩
end Go.Proofs.YtjeiiljdhnmofaaDoor
