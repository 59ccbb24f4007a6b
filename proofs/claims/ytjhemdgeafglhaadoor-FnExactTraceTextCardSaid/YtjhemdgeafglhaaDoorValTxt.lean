/- Contracts: contentOf, ValueText of the program, ValueText of the model. Conditions: the tables; the world's shape. -/
import Derived.Test.YtjhemdgeafglhaaDoorValType
import Derived.Test.YtjhemdgeafglhaaDoorQuoteT
import Derived.Test.YtjhemdgeafglhaaDoorDig
namespace Go.Proofs.YtjhemdgeafglhaaDoor
open Go Go.RowKit Go.Sort

theorem v4_down {w w1 : World} {g : Nat} {k n : Int} {t : ByteArray} {r : Int} (h : V4 w g k n t r) (hg : g < w.heap.size) (hb : Below w.heap.size w w1) : V4 w1 g k n t r :=
  ⟨(hb.cell (p := ⟨g, 0, none⟩) hg).trans h.1, (hb.cell (p := ⟨g, 1, none⟩) hg).trans h.2.1, (hb.cell (p := ⟨g, 2, none⟩) hg).trans h.2.2.1, (hb.cell (p := ⟨g, 3, none⟩) hg).trans h.2.2.2⟩
/-- The text form of a valid value. -/
def formV (k n : Int) (t : ByteArray) (r : Int) : ByteArray :=
  if k = 1 then litE t else if k = 2 then itoaE n else if k = 3 then ⟨#[60]⟩ ++ t ++ ⟨#[62]⟩ else if k = 7 then ⟨#[46]⟩ ++ t else if k = 8 then ⟨#[42]⟩ ++ t else nameV k ++ ⟨#[35]⟩ ++ itoaE r
/-- What ValueText answers. -/
def textV (k n : Int) (t : ByteArray) (r : Int) : ByteArray := if validV k n t r = true then formV k n t r else ⟨#[]⟩
/-- The content of the text form. -/
def contV (k n : Int) (t : ByteArray) (r : Int) : ByteArray := if k = 1 then dblE t else if k = 2 then itoaE n else if k = 4 ∨ k = 5 ∨ k = 6 then itoaE r else t
theorem app_nil (a : ByteArray) : a ++ ⟨#[]⟩ = a := by apply WideShapes.bytes_inj; simp
theorem nil_app (a : ByteArray) : ⟨#[]⟩ ++ a = a := by apply WideShapes.bytes_inj; simp
theorem form_cont {k : Int} (n : Int) (t : ByteArray) (r : Int) (hk : k = 1 ∨ k = 2 ∨ k = 3 ∨ k = 4 ∨ k = 5 ∨ k = 6 ∨ k = 7 ∨ k = 8) : befV k ++ contV k n t r ++ behV k = formV k n t r := by
  rcases hk with rfl | rfl | rfl | rfl | rfl | rfl | rfl | rfl
  · rfl
  · exact (app_nil _).trans (nil_app _)
  · rfl
  · exact app_nil _
  · exact app_nil _
  · exact app_nil _
  · exact app_nil _
  · exact app_nil _
/-- The bounds of a valid value. -/
theorem valid_num {n : Int} {t : ByteArray} {r : Int} (h : validV 2 n t r = true) : -1000000000000 ≤ n ∧ n ≤ 1000000000000 := by
  unfold validV at h
  rw [if_neg (by decide), if_pos rfl] at h
  simp only [Bool.and_eq_true, decide_eq_true_eq] at h
  exact h.2
theorem valid_ref {k n : Int} {t : ByteArray} {r : Int} (hk : k = 4 ∨ k = 5 ∨ k = 6) (h : validV k n t r = true) : 1 ≤ r ∧ r ≤ 1000000 := by
  unfold validV at h
  rw [if_neg (by omega), if_neg (by omega), if_neg (by omega), if_pos hk] at h
  simp only [Bool.and_eq_true, decide_eq_true_eq] at h
  exact h.2
theorem cont_size {k n : Int} {t : ByteArray} {r : Int} (h : validV k n t r = true) (ht : t.size ≤ 1048576) : (contV k n t r).size ≤ 2097152 := by
  unfold contV
  split
  · have := dblE_size t; omega
  split
  · next h2 => subst h2; have := valid_num h; have := itoa_size this.1 this.2; omega
  split
  · next h2 => have := valid_ref h2 h; have := itoa_size (n := r) (by omega) (by omega); omega
  · omega

set_option maxHeartbeats 1000000 in
theorem contentOf_any (k n : Int) (t : ByteArray) (r : Int) (m : Int) (W : World) (hv : validV k n t r = true) (ht : t.size ≤ 1048576) (hP : PowTab W) (hg : 3 < W.heap.size) (hm : W.cell? ⟨6, 0, none⟩ = some (.int .i64 m)) :
    Calls Tryd.prog 62 #[.agg #[.int .i64 k, .int .i64 n, .string t, .int .i64 r]] W fun e w' => e = .returned (.string (contV k n t r)) ∧ Below W.heap.size W w' := by
  have HGM : Hid (6 < W.heap.size) := heap_pos hm
  have HM := Lib.hid hm
  have HP := Lib.hid hP
  have HG := Lib.hid hg
  have HT := Lib.hid ht
  have hk := validV_kind hv
  have HV := Lib.hid hv
  clear hm hP hg ht hv
  have HA : Hid (∀ o, Below W.heap.size W (W.alloc o)) := fun o => (Below.refl _ _).alloc (Nat.le_refl _) o
  rcases hk with rfl | rfl | rfl | rfl | rfl | rfl | rfl | rfl
  · show Calls _ _ _ _ fun e w' => e = .returned (.string (dblE t)) ∧ _
    go_enter Tryd.func62, Tryd.ntmps62
    go_wp2_with (go_at_call 80; refine (doubleQuotes_any _ m _ HT.out (((HA.out _).cell (p := ⟨6, 0, none⟩) HGM.out).trans HM.out)).mono ?_; rintro e w1 ⟨rfl, hb⟩; have HB := Lib.hid ((HA.out _).trans (hb.mono (B' := W.heap.size) (by simp))); clear hb)
    go_ret
    exact ⟨rfl, HB.out⟩
  · show Calls _ _ _ _ fun e w' => e = .returned (.string (itoaE n)) ∧ _
    have HN := Lib.hid (valid_num HV.out)
    go_enter Tryd.func62, Tryd.ntmps62
    go_wp2_with (go_at_call 33; refine (FormatInt_all _ _ HN.out.1 HN.out.2 (var?_below (HA.out _) gPow HG.out HP.out)).mono ?_; rintro e w1 ⟨rfl, hb⟩; have HB := Lib.hid ((HA.out _).trans (hb.mono (B' := W.heap.size) (by simp))); clear hb)
    go_ret
    exact ⟨rfl, HB.out⟩
  · show Calls _ _ _ _ fun e w' => e = .returned (.string (t)) ∧ _
    go_enter Tryd.func62, Tryd.ntmps62
    go_wp2_with fail
    go_ret
    exact ⟨rfl, HA.out _⟩
  · show Calls _ _ _ _ fun e w' => e = .returned (.string (itoaE r)) ∧ _
    have HN := Lib.hid (valid_ref (by decide) HV.out)
    go_enter Tryd.func62, Tryd.ntmps62
    go_wp2_with (go_at_call 33; refine (FormatInt_all _ _ (by have := HN.out; omega) (by have := HN.out; omega) (var?_below (HA.out _) gPow HG.out HP.out)).mono ?_; rintro e w1 ⟨rfl, hb⟩; have HB := Lib.hid ((HA.out _).trans (hb.mono (B' := W.heap.size) (by simp))); clear hb)
    go_ret
    exact ⟨rfl, HB.out⟩
  · show Calls _ _ _ _ fun e w' => e = .returned (.string (itoaE r)) ∧ _
    have HN := Lib.hid (valid_ref (by decide) HV.out)
    go_enter Tryd.func62, Tryd.ntmps62
    go_wp2_with (go_at_call 33; refine (FormatInt_all _ _ (by have := HN.out; omega) (by have := HN.out; omega) (var?_below (HA.out _) gPow HG.out HP.out)).mono ?_; rintro e w1 ⟨rfl, hb⟩; have HB := Lib.hid ((HA.out _).trans (hb.mono (B' := W.heap.size) (by simp))); clear hb)
    go_ret
    exact ⟨rfl, HB.out⟩
  · show Calls _ _ _ _ fun e w' => e = .returned (.string (itoaE r)) ∧ _
    have HN := Lib.hid (valid_ref (by decide) HV.out)
    go_enter Tryd.func62, Tryd.ntmps62
    go_wp2_with (go_at_call 33; refine (FormatInt_all _ _ (by have := HN.out; omega) (by have := HN.out; omega) (var?_below (HA.out _) gPow HG.out HP.out)).mono ?_; rintro e w1 ⟨rfl, hb⟩; have HB := Lib.hid ((HA.out _).trans (hb.mono (B' := W.heap.size) (by simp))); clear hb)
    go_ret
    exact ⟨rfl, HB.out⟩
  · show Calls _ _ _ _ fun e w' => e = .returned (.string (t)) ∧ _
    go_enter Tryd.func62, Tryd.ntmps62
    go_wp2_with fail
    go_ret
    exact ⟨rfl, HA.out _⟩
  · show Calls _ _ _ _ fun e w' => e = .returned (.string (t)) ∧ _
    go_enter Tryd.func62, Tryd.ntmps62
    go_wp2_with fail
    go_ret
    exact ⟨rfl, HA.out _⟩

theorem field_frame (a b c : ByteArray) (w : World) : (Instr.field 82 (.agg #[.string a, .string b, .string c]) 1).run Tryd.prog w = .ok (.agg #[.string b, .string c]) w := by kernel_rfl

set_option maxHeartbeats 2000000 in
set_option maxRecDepth 100000 in
theorem impl_ValueText_any (k n : Int) (t : ByteArray) (r : Int) (m : Int) (W : World) (ht : t.size ≤ 1048576) (hT : Classes W) (hR : RowsTab W) (hP : PowTab W) (hg : 3 < W.heap.size) (hm : W.cell? ⟨6, 0, none⟩ = some (.int .i64 m)) :
    Calls Tryd.prog 34 #[.agg #[.int .i64 k, .int .i64 n, .string t, .int .i64 r]] W fun e w' => e = .returned (.string (textV k n t r)) ∧ Below W.heap.size W w' := by
  have HS : Hid (t.size ≤ maxLen) := by show _ ≤ _; unfold maxLen; omega
  have HT : Hid (Classes W) := hT
  have HG : Hid (1 < W.heap.size) := heap_pos (hT.at_ 0 (by decide))
  have HR := Lib.hid hR
  have HGM : Hid (6 < W.heap.size) := heap_pos hm
  have HM := Lib.hid hm
  have HP := Lib.hid hP
  have HG2 := Lib.hid hg
  have HTS := Lib.hid ht
  clear hT hR hm hP hg ht
  unfold textV
  obtain ⟨x, hx⟩ : ∃ x, validV k n t r = x := ⟨_, rfl⟩
  have HX := Lib.hid hx
  rw [hx]
  cases x
  · clear hx
    rw [if_neg (by decide)]
    go_enter Tryd.func34, Tryd.ntmps34
    go_wp2_with (go_at_call 27; refine (impl_ValidValue_any _ _ _ _ _ HS.out (HT.out.below ((Below.refl W.heap.size W).alloc (Nat.le_refl _) _) HG.out)).mono ?_; rintro e w1 ⟨rfl, hb⟩; rw [HX.out]; have HB := Lib.hid (((Below.refl _ _).alloc (Nat.le_refl _) _).trans (hb.mono (B' := W.heap.size) (by simp))); clear hb)
    go_ret
    exact ⟨rfl, HB.out⟩
  · have hk := validV_kind hx
    have HK := Lib.hid hk
    have hcs := cont_size hx HTS.out
    have HO : Hid (∀ w, RowsTab w → Calls Tryd.prog 61 #[.agg #[.int .i64 k, .int .i64 n, .string t, .int .i64 r]] w fun e w' => e = .returned (.agg #[.string (nameV k), .string (befV k), .string (behV k)]) ∧ Below w.heap.size w w') := fun w h => rowOf_any k n t r w HK.out h
    have HC : Hid (∀ w, Below W.heap.size W w → Calls Tryd.prog 62 #[.agg #[.int .i64 k, .int .i64 n, .string t, .int .i64 r]] w fun e w' => e = .returned (.string (contV k n t r)) ∧ Below w.heap.size w w') := fun w hb => contentOf_any k n t r m w HX.out HTS.out (var?_below hb gPow HG2.out HP.out) (Nat.lt_of_lt_of_le HG2.out hb.size) ((hb.cell (p := ⟨6, 0, none⟩) HGM.out).trans HM.out)
    have HF : Hid (befV k ++ contV k n t r ++ behV k = formV k n t r) := form_cont n t r hk
    have hb1 : (befV k).size ≤ 10 := by rcases hk with rfl | rfl | rfl | rfl | rfl | rfl | rfl | rfl <;> decide
    have hb2 : (behV k).size ≤ 10 := by rcases hk with rfl | rfl | rfl | rfl | rfl | rfl | rfl | rfl <;> decide
    clear hx hk
    rw [if_pos rfl]
    generalize formV k n t r = y at HF ⊢
    generalize contV k n t r = x at HC HF hcs
    generalize nameV k = a at HO
    generalize befV k = b at HO HF hb1
    generalize behV k = c at HO HF hb2
    have hfn := field_frame a b c
    go_enter Tryd.func34, Tryd.ntmps34
    go_wp2_with (first
      | (go_at_call 27; refine (impl_ValidValue_any _ _ _ _ _ HS.out (HT.out.below ((Below.refl W.heap.size W).alloc (Nat.le_refl _) _) HG.out)).mono ?_; rintro e w1 ⟨rfl, hb⟩; rw [HX.out]; have HB := Lib.hid (((Below.refl _ _).alloc (Nat.le_refl _) _).trans (hb.mono (B' := W.heap.size) (by simp))); have HL1 : Hid (W.heap.size < w1.heap.size) := Nat.lt_of_lt_of_le (by simp) hb.size; obtain ⟨hc, hf⟩ := bcell hb; have HA1 : Hid (V4 w1 W.heap.size k n t r) := (by show V4 _ _ _ _ _ _; refine ⟨?_, ?_, ?_, ?_⟩ <;> simp [hc]); clear hb)
      | (go_at_call 61; refine (HO.out _ (HR.out.below HB.out HR.out.lt)).mono ?_; rintro e w2 ⟨rfl, hb⟩; have HB2 := Lib.hid (HB.out.trans (hb.mono HB.out.size)); have HL2 : Hid (W.heap.size < w2.heap.size) := Nat.lt_of_lt_of_le HL1.out hb.size; have HA2 := Lib.hid (v4_down HA1.out HL1.out hb); clear hb hc hf HA1))
    obtain ⟨w3, hw3⟩ : ∃ w3, w2.alloc (.cells #[.string b, .string c] 80) = w3 := ⟨_, rfl⟩
    have q0 : w3.cell? ⟨w2.heap.size, 0, none⟩ = some (.string b) := by rw [← hw3]; simp
    have q1 : w3.cell? ⟨w2.heap.size, 1, none⟩ = some (.string c) := by rw [← hw3]; simp
    have HB3 : Hid (Below W.heap.size W w3) := by show Below _ _ _; rw [← hw3]; exact HB2.out.alloc HB2.out.size _
    obtain ⟨p0, p1, p2, p3⟩ := (show V4 w3 W.heap.size k n t r by rw [← hw3]; exact v4_down HA2.out HL2.out ((Below.refl _ _).alloc (Nat.le_refl _) _))
    try rw [hw3]
    clear hw3
    have x0 := cell_regrown p0
    have x1 := cell_regrown p1
    have x2 := cell_regrown p2
    have x3 := cell_regrown p3
    have y0 := cell_regrown q0
    have y1 := cell_regrown q1
    have cC := fun (d : Nat) (os : Array Obj) => Calls.regrown_of (w := w3) (d := d) (os := os) (HC.out _ (HB3.out.trans ((below_regrown w3 d os).mono HB3.out.size)))
    refine wp_region_quiet_below (by kernel_rfl) (by kernel_rfl) ?_
    repeat (first | go_big_quiet_step (with_reducible exact cC _ _) | quiet_step (with_reducible exact cC _ _))
    refine wpQuiet_nil ?_
    intro _ hw'
    obtain ⟨⟨dq, osq⟩, hw''⟩ := hw'
    subst hw''
    go_wp2_with fail
    go_ret
    exact ⟨str_ret HF.out, HB3.out.trans ((below_regrown w3 dq osq).mono HB3.out.size)⟩

theorem nameV_size (k : Int) (hk : k = 1 ∨ k = 2 ∨ k = 3 ∨ k = 4 ∨ k = 5 ∨ k = 6 ∨ k = 7 ∨ k = 8) : (nameV k).size ≤ 10 := by rcases hk with rfl | rfl | rfl | rfl | rfl | rfl | rfl | rfl <;> decide

set_option maxHeartbeats 4000000 in
set_option maxRecDepth 100000 in
theorem spec_ValueText_any (k n : Int) (t : ByteArray) (r : Int) (W : World) (ht : t.size ≤ 1048576) :
    Calls Tryd.prog 31 #[.agg #[.int .i64 k, .int .i64 n, .string t, .int .i64 r]] W fun e w' => e = .returned (.string (textV k n t r)) ∧ Below W.heap.size W w' := by
  have HS : Hid (t.size ≤ maxLen) := by show _ ≤ _; unfold maxLen; omega
  have HTS := Lib.hid ht
  unfold textV
  obtain ⟨x, hx⟩ : ∃ x, validV k n t r = x := ⟨_, rfl⟩
  have HX := Lib.hid hx
  rw [hx]
  cases x
  · clear hx
    rw [if_neg (by decide)]
    go_enter Tryd.func31, Tryd.ntmps31
    go_wp2_with (go_at_call 25; refine (spec_ValidValue_any _ _ _ _ _ HS.out).mono ?_; rintro e w1 ⟨rfl, hb⟩; rw [HX.out]; have HB := Lib.hid (((Below.refl _ _).alloc (Nat.le_refl _) _).trans (hb.mono (B' := W.heap.size) (by simp))); have HL1 : Hid (W.heap.size < w1.heap.size) := Nat.lt_of_lt_of_le (by simp) hb.size; obtain ⟨hc, hf⟩ := bcell hb; have HA1 : Hid (V4 w1 W.heap.size k n t r) := (by show V4 _ _ _ _ _ _; refine ⟨?_, ?_, ?_, ?_⟩ <;> simp [hc]); clear hb)
    go_ret
    exact ⟨rfl, HB.out⟩
  have hk := validV_kind hx
  have HV := Lib.hid hx
  clear hx
  rw [if_pos rfl]
  rcases hk with rfl | rfl | rfl | rfl | rfl | rfl | rfl | rfl
  · show Calls _ _ _ _ fun e w' => e = .returned (.string (litE t)) ∧ _
    go_enter Tryd.func31, Tryd.ntmps31
    go_wp2_with (first
      | (go_at_call 25; refine (spec_ValidValue_any _ _ _ _ _ HS.out).mono ?_; rintro e w1 ⟨rfl, hb⟩; rw [HX.out]; have HB := Lib.hid (((Below.refl _ _).alloc (Nat.le_refl _) _).trans (hb.mono (B' := W.heap.size) (by simp))); have HL1 : Hid (W.heap.size < w1.heap.size) := Nat.lt_of_lt_of_le (by simp) hb.size; obtain ⟨hc, hf⟩ := bcell hb; have HA1 : Hid (V4 w1 W.heap.size 1 n t r) := (by show V4 _ _ _ _ _ _; refine ⟨?_, ?_, ?_, ?_⟩ <;> simp [hc]); clear hb)
      | (go_at_call 58; refine (spec_QuoteText_any _ _ HTS.out).mono ?_; rintro e w2 ⟨rfl, rfl⟩))
    go_ret
    exact ⟨rfl, HB.out⟩
  · show Calls _ _ _ _ fun e w' => e = .returned (.string (itoaE n)) ∧ _
    have HN := Lib.hid (valid_num HV.out)
    go_enter Tryd.func31, Tryd.ntmps31
    go_wp2_with (first
      | (go_at_call 25; refine (spec_ValidValue_any _ _ _ _ _ HS.out).mono ?_; rintro e w1 ⟨rfl, hb⟩; rw [HX.out]; have HB := Lib.hid (((Below.refl _ _).alloc (Nat.le_refl _) _).trans (hb.mono (B' := W.heap.size) (by simp))); have HL1 : Hid (W.heap.size < w1.heap.size) := Nat.lt_of_lt_of_le (by simp) hb.size; obtain ⟨hc, hf⟩ := bcell hb; have HA1 : Hid (V4 w1 W.heap.size 2 n t r) := (by show V4 _ _ _ _ _ _; refine ⟨?_, ?_, ?_, ?_⟩ <;> simp [hc]); clear hb)
      | (go_at_call 30; refine (l06Digits_any _ _ HN.out.1 HN.out.2).mono ?_; rintro e w2 ⟨rfl, hb⟩; have HB2 := Lib.hid (HB.out.trans (hb.mono HB.out.size)); clear hb))
    go_ret
    exact ⟨rfl, HB2.out⟩
  · show Calls _ _ _ _ fun e w' => e = .returned (.string (⟨#[60]⟩ ++ t ++ ⟨#[62]⟩)) ∧ _
    go_enter Tryd.func31, Tryd.ntmps31
    go_wp2_with (go_at_call 25; refine (spec_ValidValue_any _ _ _ _ _ HS.out).mono ?_; rintro e w1 ⟨rfl, hb⟩; rw [HX.out]; have HB := Lib.hid (((Below.refl _ _).alloc (Nat.le_refl _) _).trans (hb.mono (B' := W.heap.size) (by simp))); have HL1 : Hid (W.heap.size < w1.heap.size) := Nat.lt_of_lt_of_le (by simp) hb.size; obtain ⟨hc, hf⟩ := bcell hb; have HA1 : Hid (V4 w1 W.heap.size 3 n t r) := (by show V4 _ _ _ _ _ _; refine ⟨?_, ?_, ?_, ?_⟩ <;> simp [hc]); clear hb)
    go_ret
    exact ⟨rfl, HB.out⟩
  · have HN := Lib.hid (valid_ref (by decide) HV.out)
    have hz := itoa_size (n := r) (by have := HN.out; omega) (by have := HN.out; omega)
    have HD : Hid (∀ w, Calls Tryd.prog 30 #[.int .i64 r] w fun e w' => e = .returned (.string (itoaE r)) ∧ Below w.heap.size w w') := fun w => l06Digits_any r w (by have := HN.out; omega) (by have := HN.out; omega)
    have HY : Hid (∀ w, Calls Tryd.prog 59 #[.agg #[.int .i64 4, .int .i64 n, .string t, .int .i64 r]] w fun e w' => e = .returned (.string ⟨#[97, 114, 114, 97, 121]⟩) ∧ Below w.heap.size w w') := fun w => (spec_DataType_any 4 n t r w HS.out).mono fun e w' h => ⟨h.1.trans (by unfold typeV; rw [HV.out, if_pos rfl]; rfl), h.2⟩
    show Calls _ _ _ _ fun e w' => e = .returned (.string (⟨#[97, 114, 114, 97, 121]⟩ ++ ⟨#[35]⟩ ++ itoaE r)) ∧ _
    generalize itoaE r = y at hz HD ⊢
    go_enter Tryd.func31, Tryd.ntmps31
    go_wp2_with (go_at_call 25; refine (spec_ValidValue_any _ _ _ _ _ HS.out).mono ?_; rintro e w1 ⟨rfl, hb⟩; rw [HX.out]; have HB := Lib.hid (((Below.refl _ _).alloc (Nat.le_refl _) _).trans (hb.mono (B' := W.heap.size) (by simp))); have HL1 : Hid (W.heap.size < w1.heap.size) := Nat.lt_of_lt_of_le (by simp) hb.size; obtain ⟨hc, hf⟩ := bcell hb; have HA1 : Hid (V4 w1 W.heap.size 4 n t r) := (by show V4 _ _ _ _ _ _; refine ⟨?_, ?_, ?_, ?_⟩ <;> simp [hc]); clear hb)
    obtain ⟨p0, p1, p2, p3⟩ := HA1.out
    clear hc hf HA1
    have x0 := cell_regrown p0
    have x1 := cell_regrown p1
    have x2 := cell_regrown p2
    have x3 := cell_regrown p3
    have cD := fun (d : Nat) (os : Array Obj) => Calls.regrown_of (w := w1) (d := d) (os := os) (HD.out _)
    have cY := fun (d : Nat) (os : Array Obj) => Calls.regrown_of (w := w1) (d := d) (os := os) (HY.out _)
    refine wp_region_quiet_below (by kernel_rfl) (by kernel_rfl) ?_
    repeat (first | go_big_quiet_step (first | with_reducible exact cD _ _ | with_reducible exact cY _ _) | quiet_step (first | with_reducible exact cD _ _ | with_reducible exact cY _ _))
    refine wpQuiet_nil ?_
    intro _ hw'
    obtain ⟨⟨dq, osq⟩, hw''⟩ := hw'
    subst hw''
    go_wp2_with fail
    go_ret
    exact ⟨rfl, HB.out.trans ((below_regrown w1 dq osq).mono HB.out.size)⟩
  · have HN := Lib.hid (valid_ref (by decide) HV.out)
    have hz := itoa_size (n := r) (by have := HN.out; omega) (by have := HN.out; omega)
    have HD : Hid (∀ w, Calls Tryd.prog 30 #[.int .i64 r] w fun e w' => e = .returned (.string (itoaE r)) ∧ Below w.heap.size w w') := fun w => l06Digits_any r w (by have := HN.out; omega) (by have := HN.out; omega)
    have HY : Hid (∀ w, Calls Tryd.prog 59 #[.agg #[.int .i64 5, .int .i64 n, .string t, .int .i64 r]] w fun e w' => e = .returned (.string ⟨#[116, 97, 98, 108, 101]⟩) ∧ Below w.heap.size w w') := fun w => (spec_DataType_any 5 n t r w HS.out).mono fun e w' h => ⟨h.1.trans (by unfold typeV; rw [HV.out, if_pos rfl]; rfl), h.2⟩
    show Calls _ _ _ _ fun e w' => e = .returned (.string (⟨#[116, 97, 98, 108, 101]⟩ ++ ⟨#[35]⟩ ++ itoaE r)) ∧ _
    generalize itoaE r = y at hz HD ⊢
    go_enter Tryd.func31, Tryd.ntmps31
    go_wp2_with (go_at_call 25; refine (spec_ValidValue_any _ _ _ _ _ HS.out).mono ?_; rintro e w1 ⟨rfl, hb⟩; rw [HX.out]; have HB := Lib.hid (((Below.refl _ _).alloc (Nat.le_refl _) _).trans (hb.mono (B' := W.heap.size) (by simp))); have HL1 : Hid (W.heap.size < w1.heap.size) := Nat.lt_of_lt_of_le (by simp) hb.size; obtain ⟨hc, hf⟩ := bcell hb; have HA1 : Hid (V4 w1 W.heap.size 5 n t r) := (by show V4 _ _ _ _ _ _; refine ⟨?_, ?_, ?_, ?_⟩ <;> simp [hc]); clear hb)
    obtain ⟨p0, p1, p2, p3⟩ := HA1.out
    clear hc hf HA1
    have x0 := cell_regrown p0
    have x1 := cell_regrown p1
    have x2 := cell_regrown p2
    have x3 := cell_regrown p3
    have cD := fun (d : Nat) (os : Array Obj) => Calls.regrown_of (w := w1) (d := d) (os := os) (HD.out _)
    have cY := fun (d : Nat) (os : Array Obj) => Calls.regrown_of (w := w1) (d := d) (os := os) (HY.out _)
    refine wp_region_quiet_below (by kernel_rfl) (by kernel_rfl) ?_
    repeat (first | go_big_quiet_step (first | with_reducible exact cD _ _ | with_reducible exact cY _ _) | quiet_step (first | with_reducible exact cD _ _ | with_reducible exact cY _ _))
    refine wpQuiet_nil ?_
    intro _ hw'
    obtain ⟨⟨dq, osq⟩, hw''⟩ := hw'
    subst hw''
    go_wp2_with fail
    go_ret
    exact ⟨rfl, HB.out.trans ((below_regrown w1 dq osq).mono HB.out.size)⟩
  · have HN := Lib.hid (valid_ref (by decide) HV.out)
    have hz := itoa_size (n := r) (by have := HN.out; omega) (by have := HN.out; omega)
    have HD : Hid (∀ w, Calls Tryd.prog 30 #[.int .i64 r] w fun e w' => e = .returned (.string (itoaE r)) ∧ Below w.heap.size w w') := fun w => l06Digits_any r w (by have := HN.out; omega) (by have := HN.out; omega)
    have HY : Hid (∀ w, Calls Tryd.prog 59 #[.agg #[.int .i64 6, .int .i64 n, .string t, .int .i64 r]] w fun e w' => e = .returned (.string ⟨#[114, 101, 99, 111, 114, 100]⟩) ∧ Below w.heap.size w w') := fun w => (spec_DataType_any 6 n t r w HS.out).mono fun e w' h => ⟨h.1.trans (by unfold typeV; rw [HV.out, if_pos rfl]; rfl), h.2⟩
    show Calls _ _ _ _ fun e w' => e = .returned (.string (⟨#[114, 101, 99, 111, 114, 100]⟩ ++ ⟨#[35]⟩ ++ itoaE r)) ∧ _
    generalize itoaE r = y at hz HD ⊢
    go_enter Tryd.func31, Tryd.ntmps31
    go_wp2_with (go_at_call 25; refine (spec_ValidValue_any _ _ _ _ _ HS.out).mono ?_; rintro e w1 ⟨rfl, hb⟩; rw [HX.out]; have HB := Lib.hid (((Below.refl _ _).alloc (Nat.le_refl _) _).trans (hb.mono (B' := W.heap.size) (by simp))); have HL1 : Hid (W.heap.size < w1.heap.size) := Nat.lt_of_lt_of_le (by simp) hb.size; obtain ⟨hc, hf⟩ := bcell hb; have HA1 : Hid (V4 w1 W.heap.size 6 n t r) := (by show V4 _ _ _ _ _ _; refine ⟨?_, ?_, ?_, ?_⟩ <;> simp [hc]); clear hb)
    obtain ⟨p0, p1, p2, p3⟩ := HA1.out
    clear hc hf HA1
    have x0 := cell_regrown p0
    have x1 := cell_regrown p1
    have x2 := cell_regrown p2
    have x3 := cell_regrown p3
    have cD := fun (d : Nat) (os : Array Obj) => Calls.regrown_of (w := w1) (d := d) (os := os) (HD.out _)
    have cY := fun (d : Nat) (os : Array Obj) => Calls.regrown_of (w := w1) (d := d) (os := os) (HY.out _)
    refine wp_region_quiet_below (by kernel_rfl) (by kernel_rfl) ?_
    repeat (first | go_big_quiet_step (first | with_reducible exact cD _ _ | with_reducible exact cY _ _) | quiet_step (first | with_reducible exact cD _ _ | with_reducible exact cY _ _))
    refine wpQuiet_nil ?_
    intro _ hw'
    obtain ⟨⟨dq, osq⟩, hw''⟩ := hw'
    subst hw''
    go_wp2_with fail
    go_ret
    exact ⟨rfl, HB.out.trans ((below_regrown w1 dq osq).mono HB.out.size)⟩
  · show Calls _ _ _ _ fun e w' => e = .returned (.string (⟨#[46]⟩ ++ t)) ∧ _
    go_enter Tryd.func31, Tryd.ntmps31
    go_wp2_with (go_at_call 25; refine (spec_ValidValue_any _ _ _ _ _ HS.out).mono ?_; rintro e w1 ⟨rfl, hb⟩; rw [HX.out]; have HB := Lib.hid (((Below.refl _ _).alloc (Nat.le_refl _) _).trans (hb.mono (B' := W.heap.size) (by simp))); have HL1 : Hid (W.heap.size < w1.heap.size) := Nat.lt_of_lt_of_le (by simp) hb.size; obtain ⟨hc, hf⟩ := bcell hb; have HA1 : Hid (V4 w1 W.heap.size 7 n t r) := (by show V4 _ _ _ _ _ _; refine ⟨?_, ?_, ?_, ?_⟩ <;> simp [hc]); clear hb)
    go_ret
    exact ⟨rfl, HB.out⟩
  · show Calls _ _ _ _ fun e w' => e = .returned (.string (⟨#[42]⟩ ++ t)) ∧ _
    go_enter Tryd.func31, Tryd.ntmps31
    go_wp2_with (go_at_call 25; refine (spec_ValidValue_any _ _ _ _ _ HS.out).mono ?_; rintro e w1 ⟨rfl, hb⟩; rw [HX.out]; have HB := Lib.hid (((Below.refl _ _).alloc (Nat.le_refl _) _).trans (hb.mono (B' := W.heap.size) (by simp))); have HL1 : Hid (W.heap.size < w1.heap.size) := Nat.lt_of_lt_of_le (by simp) hb.size; obtain ⟨hc, hf⟩ := bcell hb; have HA1 : Hid (V4 w1 W.heap.size 8 n t r) := (by show V4 _ _ _ _ _ _; refine ⟨?_, ?_, ?_, ?_⟩ <;> simp [hc]); clear hb)
    go_ret
    exact ⟨rfl, HB.out⟩
end Go.Proofs.YtjhemdgeafglhaaDoor
