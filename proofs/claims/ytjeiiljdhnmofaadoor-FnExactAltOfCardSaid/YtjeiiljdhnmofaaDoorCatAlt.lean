/- Contracts: CatOf and AltOf of the model and of the program. Condition: the tables hold what the program's text lays. -/
import Derived.Test.YtjeiiljdhnmofaaDoorChainS
import Derived.Test.YtjeiiljdhnmofaaDoorChainP
namespace Go.Proofs.YtjeiiljdhnmofaaDoor
open Go Go.RowKit

set_option maxHeartbeats 2000000 in
set_option maxRecDepth 100000 in
theorem spec_CatOf_any (d : Nat) (A : Option Addr) (n c : Nat) (xs : List Pt) (W : World) (hd : PtD W 0 W.heap.size (d + 1) A n xs) :
    Calls Tryd.prog 30 #[.slice A n c] W (RetCh (d + n) (chA 19 1 xs) (tt (ValidP (chP 19 1 xs))) W) := by
  have HCH : Hid (∀ X, Below W.heap.size W X → Calls Tryd.prog 64 #[.slice A n c, .int .i64 19, .agg #[.int .i64 1, .int .i64 0, .string ⟨#[]⟩, .slice none 0 0]] X (RetCh (d + n) (chA 19 1 xs) (tt (ValidP (chP 19 1 xs))) X)) := fun X hb => spec_chain_any 19 1 (by decide) (by decide) d A n c xs X (hd.go hb)
  obtain ⟨b, hb⟩ : ∃ b, tt (ValidP (chP 19 1 xs)) = b := ⟨_, rfl⟩
  obtain ⟨y, hy⟩ : ∃ y, chA 19 1 xs = y := ⟨_, rfl⟩
  rw [hb, hy] at HCH ⊢
  obtain ⟨yk, ym, yt, yks⟩ := y
  clear hb hy hd
  go_enter Tryd.func30, Tryd.ntmps30
  go_wp2_with (go_at_call 64; refine Calls.mono (HCH.out _ (below_alloc W _)) ?_; rintro e w1 ⟨A', n', c', hnc, he, h⟩; obtain rfl : e = .returned (.tuple #[.agg #[.int .i64 yk, .int .i64 ym, .string yt, .slice A' n' c'], .bool b]) := he; have HNC := Lib.hid hnc; have hr := (RW.new W #[.int .i64 0, .int .i64 0, .string ⟨#[]⟩, .slice none 0 0] 29).below h.out.2 (lt_alloc W _); have HV : Hid (PtV w1 (W.heap.size + 1) w1.heap.size (d + n) (.node yk ym yt yks) A' n') := (by have k := h.out.1; simp only [World.size_alloc] at k; exact k); have HB1 := Lib.hid ((below_alloc W _).trans (h.out.2.mono (Nat.le_of_lt (lt_alloc W _)))); have s0 : w1.cell? ⟨W.heap.size, 0, none⟩ = some (.int .i64 0) := hr.cell 0; have s1 : w1.cell? ⟨W.heap.size, 1, none⟩ = some (.int .i64 0) := hr.cell 1; have s2 : w1.cell? ⟨W.heap.size, 2, none⟩ = some (.string ⟨#[]⟩) := hr.cell 2; have s3 : w1.cell? ⟨W.heap.size, 3, none⟩ = some (.slice none 0 0) := hr.cell 3; have f0 := hr.frozen 0; have f1 := hr.frozen 1; have f2 := hr.frozen 2; have f3 := hr.frozen 3; clear h hnc hr)
  refine bodyPost_ret (v := .tuple #[.agg #[.int .i64 yk, .int .i64 ym, .string yt, .slice A' n' c'], .bool b]) (by rw [results_cell_tmp rfl]; go_simp) rfl ⟨A', n', c', HNC.out, rfl, Lib.hid ⟨⟨HV.out.1, ((((HV.out.2.other (q := ⟨W.heap.size, 0, none⟩) (.inl (Nat.lt_succ_self _)) _).other (q := ⟨W.heap.size, 1, none⟩) (.inl (Nat.lt_succ_self _)) _).other (q := ⟨W.heap.size, 2, none⟩) (.inl (Nat.lt_succ_self _)) _).other (q := ⟨W.heap.size, 3, none⟩) (.inl (Nat.lt_succ_self _)) _).more (Nat.le_succ _) (Nat.le_of_eq (by simp [World.setCell]))⟩, (by repeat (first | exact HB1.out | refine Below.setCell ?_ (by first | (simp; done) | (simp; omega)) _))⟩⟩

set_option maxHeartbeats 2000000 in
set_option maxRecDepth 100000 in
theorem impl_CatOf_any (d : Nat) (A : Option Addr) (n c : Nat) (xs : List Pt) (W : World) (hd : PtD W 0 W.heap.size (d + 1) A n xs) (hT : Classes W) (hF : Forms W) :
    Calls Tryd.prog 32 #[.slice A n c] W (RetChO (d + n) (chA 19 1 xs) (tt (ValidP (chP 19 1 xs))) W) := by
  have HCH : Hid (∀ X, Below W.heap.size W X → Calls Tryd.prog 65 #[.int .i64 19, .agg #[.int .i64 1, .int .i64 0, .string ⟨#[]⟩, .slice none 0 0], .slice A n c] X (RetChO (d + n) (chA 19 1 xs) (tt (ValidP (chP 19 1 xs))) X)) := fun X hb => chainOf_any 19 1 (by decide) (by decide) d A n c xs X (hd.go hb) (classes_go hT hb) (hF.go hb)
  obtain ⟨b, hb⟩ : ∃ b, tt (ValidP (chP 19 1 xs)) = b := ⟨_, rfl⟩
  obtain ⟨y, hy⟩ : ∃ y, chA 19 1 xs = y := ⟨_, rfl⟩
  rw [hb, hy] at HCH ⊢
  obtain ⟨yk, ym, yt, yks⟩ := y
  clear hb hy hd
  go_enter Tryd.func32, Tryd.ntmps32
  go_wp2_with (go_at_call 65; refine Calls.mono (HCH.out _ (below_alloc W _)) ?_; rintro e w1 ⟨A', n', c', hnc, he, h⟩; obtain rfl : e = .returned (.tuple #[.agg #[.int .i64 yk, .int .i64 ym, .string yt, .slice A' n' c'], .bool b]) := he; have HNC := Lib.hid hnc; have hr := (RW.new W #[.int .i64 0, .int .i64 0, .string ⟨#[]⟩, .slice none 0 0] 29).below h.out.2 (lt_alloc W _); have HV : Hid ((yt.size ≤ maxLen ∧ PtO w1 (d + n) (W.heap.size + 1) w1.heap.size A' n' yks)) := (by have k := h.out.1; simp only [World.size_alloc] at k; exact k); have HB1 := Lib.hid ((below_alloc W _).trans (h.out.2.mono (Nat.le_of_lt (lt_alloc W _)))); have s0 : w1.cell? ⟨W.heap.size, 0, none⟩ = some (.int .i64 0) := hr.cell 0; have s1 : w1.cell? ⟨W.heap.size, 1, none⟩ = some (.int .i64 0) := hr.cell 1; have s2 : w1.cell? ⟨W.heap.size, 2, none⟩ = some (.string ⟨#[]⟩) := hr.cell 2; have s3 : w1.cell? ⟨W.heap.size, 3, none⟩ = some (.slice none 0 0) := hr.cell 3; have f0 := hr.frozen 0; have f1 := hr.frozen 1; have f2 := hr.frozen 2; have f3 := hr.frozen 3; clear h hnc hr)
  refine bodyPost_ret (v := .tuple #[.agg #[.int .i64 yk, .int .i64 ym, .string yt, .slice A' n' c'], .bool b]) (by rw [results_cell_tmp rfl]; go_simp) rfl ⟨A', n', c', HNC.out, rfl, Lib.hid ⟨⟨HV.out.1, (HV.out.2.keep (a := W.heap.size) (b := W.heap.size + 1) ((((KeepO.set w1 (p := ⟨W.heap.size, 0, none⟩) (Nat.le_refl _) (Nat.lt_succ_self _) _).trans (KeepO.set _ (p := ⟨W.heap.size, 1, none⟩) (Nat.le_refl _) (Nat.lt_succ_self _) _)).trans (KeepO.set _ (p := ⟨W.heap.size, 2, none⟩) (Nat.le_refl _) (Nat.lt_succ_self _) _)).trans (KeepO.set _ (p := ⟨W.heap.size, 3, none⟩) (Nat.le_refl _) (Nat.lt_succ_self _) _)) (.inr (Nat.le_refl _))).mono (Nat.le_succ _) (Nat.le_of_eq (by simp [World.setCell]))⟩, (by repeat (first | exact HB1.out | refine Below.setCell ?_ (by first | (simp; done) | (simp; omega)) _))⟩⟩

set_option maxHeartbeats 2000000 in
set_option maxRecDepth 100000 in
theorem spec_AltOf_any (d : Nat) (A : Option Addr) (n c : Nat) (xs : List Pt) (W : World) (hd : PtD W 0 W.heap.size (d + 1) A n xs) :
    Calls Tryd.prog 35 #[.slice A n c] W (RetCh (d + n) (chA 18 16 xs) (tt (ValidP (chP 18 16 xs))) W) := by
  have HCH : Hid (∀ X, Below W.heap.size W X → Calls Tryd.prog 64 #[.slice A n c, .int .i64 18, .agg #[.int .i64 16, .int .i64 0, .string ⟨#[]⟩, .slice none 0 0]] X (RetCh (d + n) (chA 18 16 xs) (tt (ValidP (chP 18 16 xs))) X)) := fun X hb => spec_chain_any 18 16 (by decide) (by decide) d A n c xs X (hd.go hb)
  obtain ⟨b, hb⟩ : ∃ b, tt (ValidP (chP 18 16 xs)) = b := ⟨_, rfl⟩
  obtain ⟨y, hy⟩ : ∃ y, chA 18 16 xs = y := ⟨_, rfl⟩
  rw [hb, hy] at HCH ⊢
  obtain ⟨yk, ym, yt, yks⟩ := y
  clear hb hy hd
  go_enter Tryd.func35, Tryd.ntmps35
  go_wp2_with (go_at_call 64; refine Calls.mono (HCH.out _ (below_alloc W _)) ?_; rintro e w1 ⟨A', n', c', hnc, he, h⟩; obtain rfl : e = .returned (.tuple #[.agg #[.int .i64 yk, .int .i64 ym, .string yt, .slice A' n' c'], .bool b]) := he; have HNC := Lib.hid hnc; have hr := (RW.new W #[.int .i64 0, .int .i64 0, .string ⟨#[]⟩, .slice none 0 0] 29).below h.out.2 (lt_alloc W _); have HV : Hid (PtV w1 (W.heap.size + 1) w1.heap.size (d + n) (.node yk ym yt yks) A' n') := (by have k := h.out.1; simp only [World.size_alloc] at k; exact k); have HB1 := Lib.hid ((below_alloc W _).trans (h.out.2.mono (Nat.le_of_lt (lt_alloc W _)))); have s0 : w1.cell? ⟨W.heap.size, 0, none⟩ = some (.int .i64 0) := hr.cell 0; have s1 : w1.cell? ⟨W.heap.size, 1, none⟩ = some (.int .i64 0) := hr.cell 1; have s2 : w1.cell? ⟨W.heap.size, 2, none⟩ = some (.string ⟨#[]⟩) := hr.cell 2; have s3 : w1.cell? ⟨W.heap.size, 3, none⟩ = some (.slice none 0 0) := hr.cell 3; have f0 := hr.frozen 0; have f1 := hr.frozen 1; have f2 := hr.frozen 2; have f3 := hr.frozen 3; clear h hnc hr)
  refine bodyPost_ret (v := .tuple #[.agg #[.int .i64 yk, .int .i64 ym, .string yt, .slice A' n' c'], .bool b]) (by rw [results_cell_tmp rfl]; go_simp) rfl ⟨A', n', c', HNC.out, rfl, Lib.hid ⟨⟨HV.out.1, ((((HV.out.2.other (q := ⟨W.heap.size, 0, none⟩) (.inl (Nat.lt_succ_self _)) _).other (q := ⟨W.heap.size, 1, none⟩) (.inl (Nat.lt_succ_self _)) _).other (q := ⟨W.heap.size, 2, none⟩) (.inl (Nat.lt_succ_self _)) _).other (q := ⟨W.heap.size, 3, none⟩) (.inl (Nat.lt_succ_self _)) _).more (Nat.le_succ _) (Nat.le_of_eq (by simp [World.setCell]))⟩, (by repeat (first | exact HB1.out | refine Below.setCell ?_ (by first | (simp; done) | (simp; omega)) _))⟩⟩

set_option maxHeartbeats 2000000 in
set_option maxRecDepth 100000 in
theorem impl_AltOf_any (d : Nat) (A : Option Addr) (n c : Nat) (xs : List Pt) (W : World) (hd : PtD W 0 W.heap.size (d + 1) A n xs) (hT : Classes W) (hF : Forms W) :
    Calls Tryd.prog 36 #[.slice A n c] W (RetChO (d + n) (chA 18 16 xs) (tt (ValidP (chP 18 16 xs))) W) := by
  have HCH : Hid (∀ X, Below W.heap.size W X → Calls Tryd.prog 65 #[.int .i64 18, .agg #[.int .i64 16, .int .i64 0, .string ⟨#[]⟩, .slice none 0 0], .slice A n c] X (RetChO (d + n) (chA 18 16 xs) (tt (ValidP (chP 18 16 xs))) X)) := fun X hb => chainOf_any 18 16 (by decide) (by decide) d A n c xs X (hd.go hb) (classes_go hT hb) (hF.go hb)
  obtain ⟨b, hb⟩ : ∃ b, tt (ValidP (chP 18 16 xs)) = b := ⟨_, rfl⟩
  obtain ⟨y, hy⟩ : ∃ y, chA 18 16 xs = y := ⟨_, rfl⟩
  rw [hb, hy] at HCH ⊢
  obtain ⟨yk, ym, yt, yks⟩ := y
  clear hb hy hd
  go_enter Tryd.func36, Tryd.ntmps36
  go_wp2_with (go_at_call 65; refine Calls.mono (HCH.out _ (below_alloc W _)) ?_; rintro e w1 ⟨A', n', c', hnc, he, h⟩; obtain rfl : e = .returned (.tuple #[.agg #[.int .i64 yk, .int .i64 ym, .string yt, .slice A' n' c'], .bool b]) := he; have HNC := Lib.hid hnc; have hr := (RW.new W #[.int .i64 0, .int .i64 0, .string ⟨#[]⟩, .slice none 0 0] 29).below h.out.2 (lt_alloc W _); have HV : Hid ((yt.size ≤ maxLen ∧ PtO w1 (d + n) (W.heap.size + 1) w1.heap.size A' n' yks)) := (by have k := h.out.1; simp only [World.size_alloc] at k; exact k); have HB1 := Lib.hid ((below_alloc W _).trans (h.out.2.mono (Nat.le_of_lt (lt_alloc W _)))); have s0 : w1.cell? ⟨W.heap.size, 0, none⟩ = some (.int .i64 0) := hr.cell 0; have s1 : w1.cell? ⟨W.heap.size, 1, none⟩ = some (.int .i64 0) := hr.cell 1; have s2 : w1.cell? ⟨W.heap.size, 2, none⟩ = some (.string ⟨#[]⟩) := hr.cell 2; have s3 : w1.cell? ⟨W.heap.size, 3, none⟩ = some (.slice none 0 0) := hr.cell 3; have f0 := hr.frozen 0; have f1 := hr.frozen 1; have f2 := hr.frozen 2; have f3 := hr.frozen 3; clear h hnc hr)
  refine bodyPost_ret (v := .tuple #[.agg #[.int .i64 yk, .int .i64 ym, .string yt, .slice A' n' c'], .bool b]) (by rw [results_cell_tmp rfl]; go_simp) rfl ⟨A', n', c', HNC.out, rfl, Lib.hid ⟨⟨HV.out.1, (HV.out.2.keep (a := W.heap.size) (b := W.heap.size + 1) ((((KeepO.set w1 (p := ⟨W.heap.size, 0, none⟩) (Nat.le_refl _) (Nat.lt_succ_self _) _).trans (KeepO.set _ (p := ⟨W.heap.size, 1, none⟩) (Nat.le_refl _) (Nat.lt_succ_self _) _)).trans (KeepO.set _ (p := ⟨W.heap.size, 2, none⟩) (Nat.le_refl _) (Nat.lt_succ_self _) _)).trans (KeepO.set _ (p := ⟨W.heap.size, 3, none⟩) (Nat.le_refl _) (Nat.lt_succ_self _) _)) (.inr (Nat.le_refl _))).mono (Nat.le_succ _) (Nat.le_of_eq (by simp [World.setCell]))⟩, (by repeat (first | exact HB1.out | refine Below.setCell ?_ (by first | (simp; done) | (simp; omega)) _))⟩⟩

end Go.Proofs.YtjeiiljdhnmofaaDoor
