/- Contracts: TraceText of both. Conditions (the program's): the tables hold what the program's text lays; the world's shape. -/
import Derived.Test.YtjhemdgeafglhaaDoorValTxt
import Derived.Test.YtjhemdgeafglhaaDoorIn
namespace Go.Proofs.YtjhemdgeafglhaaDoor
open Go Go.RowKit Go.Sort

/-- The cells of the table of words. -/
def wordFacts : List (Nat × Value) := [(0, .string ⟨#[]⟩), (1, .string ⟨#[99, 97, 108, 108, 32]⟩), (2, .string ⟨#[114, 101, 116, 117, 114, 110, 32]⟩), (3, .string ⟨#[102, 97, 105, 108, 32]⟩), (4, .string ⟨#[103, 111, 116, 111, 32]⟩)]
theorem gWords : Tryd.prog.globalNamed "loop.example/g00873/impl.traceWords" = some 0 := by kernel_rfl
theorem tWords : (Tryd.prog.globals[0]?).map (·.type) = some 56 := by kernel_rfl
theorem facts_words : facts (H := Unit) Tryd.prog 8 56 Rows.laid_loop_example_g00873_impl_traceWords = wordFacts := by kernel_rfl
def WordsTab (W : World) : Prop := ∀ (i : Nat) (v : Value), (i, v) ∈ wordFacts → W.cell? ⟨0, i, none⟩ = some v
theorem wordsTab_of {W : World} {rest : List (String × DataW Unit)} (h : laidMet Tryd.prog (("loop.example/g00873/impl.traceWords", Rows.laid_loop_example_g00873_impl_traceWords) :: rest) W) : WordsTab W := fun i v hm =>
  laid_cells 8 gWords tWords h i v (by rw [facts_words]; exact hm)
theorem WordsTab.lt {W : World} (h : WordsTab W) : 0 < W.heap.size := heap_pos (h 0 _ (.head _))
theorem WordsTab.go {W W' : World} (h : WordsTab W) (hb : Below W.heap.size W W') : WordsTab W' := fun i v hm => (hb.cell (p := ⟨0, i, none⟩) h.lt).trans (h i v hm)

/-- A trace line out of its parts. -/
def lineT (k : Int) (y nm x : ByteArray) : ByteArray := if k = 1 then y ++ ⟨#[58, 32]⟩ ++ nm ++ ⟨#[32, 61, 32]⟩ ++ x else if k = 2 then y ++ ⟨#[58, 32]⟩ ++ ⟨#[99, 97, 108, 108, 32]⟩ ++ nm else if k = 3 then y ++ ⟨#[58, 32]⟩ ++ ⟨#[114, 101, 116, 117, 114, 110, 32]⟩ ++ nm ++ ⟨#[32, 61, 32]⟩ ++ x else if k = 4 then y ++ ⟨#[58, 32]⟩ ++ ⟨#[102, 97, 105, 108, 32]⟩ ++ nm else y ++ ⟨#[58, 32]⟩ ++ ⟨#[103, 111, 116, 111, 32]⟩ ++ nm
def traceB (k st : Int) (nm : ByteArray) (vk n : Int) (t : ByteArray) (r : Int) : Bool := decide (1 ≤ k ∧ k ≤ 5) && decide (1 ≤ st ∧ st ≤ 1000) && isNameB nm && validV vk n t r
/-- What TraceText answers. -/
def traceT (k st : Int) (nm : ByteArray) (vk n : Int) (t : ByteArray) (r : Int) : ByteArray := if traceB k st nm vk n t r = true then lineT k (itoaE st) nm (textV vk n t r) else ⟨#[]⟩
theorem text_size {k n : Int} {t : ByteArray} {r : Int} (h : validV k n t r = true) (ht : t.size ≤ 1048576) : (textV k n t r).size ≤ 3000000 := by
  unfold textV
  rw [if_pos h, ← form_cont n t r (validV_kind h), ByteArray.size_append, ByteArray.size_append]
  have h1 : (befV k).size ≤ 10 := by rcases validV_kind h with rfl | rfl | rfl | rfl | rfl | rfl | rfl | rfl <;> decide
  have h2 : (behV k).size ≤ 10 := by rcases validV_kind h with rfl | rfl | rfl | rfl | rfl | rfl | rfl | rfl <;> decide
  have h3 := cont_size h ht
  omega
theorem kind5 {k : Int} (h : decide (1 ≤ k ∧ k ≤ 5) = true) : k = 1 ∨ k = 2 ∨ k = 3 ∨ k = 4 ∨ k = 5 := by
  have := of_decide_eq_true h
  omega

set_option maxHeartbeats 500000 in
set_option maxRecDepth 100000 in
theorem spec_TraceText_any (k st : Int) (nm : ByteArray) (vk n : Int) (t : ByteArray) (r : Int) (W : World) (hn : nm.size ≤ 1048576) (ht : t.size ≤ 1048576) :
    Calls Tryd.prog 12 #[.int .i64 k, .int .i64 st, .string nm, .agg #[.int .i64 vk, .int .i64 n, .string t, .int .i64 r]] W fun e w' => e = .returned (.string (traceT k st nm vk n t r)) ∧ Below W.heap.size W w' := by
  have HS : Hid (t.size ≤ maxLen) := by show _ ≤ _; unfold maxLen; omega
  have HNS : Hid (nm.size ≤ maxLen) := by show _ ≤ _; unfold maxLen; omega
  have HTS := Lib.hid ht
  unfold traceT traceB
  obtain ⟨a, ha⟩ : ∃ a, decide (1 ≤ k ∧ k ≤ 5) = a := ⟨_, rfl⟩
  obtain ⟨b, hb⟩ : ∃ b, decide (1 ≤ st ∧ st ≤ 1000) = b := ⟨_, rfl⟩
  obtain ⟨c, hc⟩ : ∃ c, isNameB nm = c := ⟨_, rfl⟩
  obtain ⟨d, hd⟩ : ∃ d, validV vk n t r = d := ⟨_, rfl⟩
  have HA := Lib.hid ha
  have HB := Lib.hid hb
  have HC := Lib.hid hc
  have HD := Lib.hid hd
  rw [ha, hb, hc, hd]
  have HL : Hid (∀ o, Below W.heap.size W (W.alloc o)) := fun o => (Below.refl _ _).alloc (Nat.le_refl _) o

  cases a
  · have tk1 : True := trivial
    clear ha hb hc hd
    go_enter Tryd.func12, Tryd.ntmps12
    go_wp2_with (first
        | (go_at_call 29; have tk := tk1; refine (l00In_any k 1 5 _).mono ?_; rintro e w1 ⟨rfl, rfl⟩; rw [HA.out]; clear tk tk1))
    go_ret
    exact ⟨rfl, HL.out _⟩
  cases b
  · have tk1 : True := trivial
    clear ha hb hc hd
    go_enter Tryd.func12, Tryd.ntmps12
    go_wp2_with (first
        | (go_at_call 29; have tk := tk1; refine (l00In_any k 1 5 _).mono ?_; rintro e w1 ⟨rfl, rfl⟩; rw [HA.out]; clear tk tk1)
        | (go_at_call 29; refine (l00In_any st 1 1000 _).mono ?_; rintro e w1 ⟨rfl, rfl⟩; rw [HB.out]))
    go_ret
    exact ⟨rfl, HL.out _⟩
  cases c
  · have tk1 : True := trivial
    clear ha hb hc hd
    go_enter Tryd.func12, Tryd.ntmps12
    go_wp2_with (first
        | (go_at_call 29; have tk := tk1; refine (l00In_any k 1 5 _).mono ?_; rintro e w1 ⟨rfl, rfl⟩; rw [HA.out]; clear tk tk1)
        | (go_at_call 29; refine (l00In_any st 1 1000 _).mono ?_; rintro e w1 ⟨rfl, rfl⟩; rw [HB.out])
        | (go_at_call 26; refine (spec_IsName_any _ _ HNS.out).mono ?_; rintro e w1 ⟨rfl, rfl⟩; rw [HC.out]))
    go_ret
    exact ⟨rfl, HL.out _⟩
  cases d
  · have tk1 : True := trivial
    clear ha hb hc hd
    go_enter Tryd.func12, Tryd.ntmps12
    go_wp2_with (first
        | (go_at_call 29; have tk := tk1; refine (l00In_any k 1 5 _).mono ?_; rintro e w1 ⟨rfl, rfl⟩; rw [HA.out]; clear tk tk1)
        | (go_at_call 29; refine (l00In_any st 1 1000 _).mono ?_; rintro e w1 ⟨rfl, rfl⟩; rw [HB.out])
        | (go_at_call 26; refine (spec_IsName_any _ _ HNS.out).mono ?_; rintro e w1 ⟨rfl, rfl⟩; rw [HC.out])
        | (go_at_call 25; refine (spec_ValidValue_any _ _ _ _ _ HS.out).mono ?_; rintro e w4 ⟨rfl, hb4⟩; rw [HD.out]; have HB4 := Lib.hid ((HL.out _).trans (hb4.mono (B' := W.heap.size) (by simp))); have HL4 : Hid (W.heap.size < w4.heap.size) := Nat.lt_of_lt_of_le (by simp) hb4.size; have HV4 : Hid (V4 w4 W.heap.size vk n t r) := (by show V4 _ _ _ _ _ _; obtain ⟨hc4, _⟩ := bcell hb4; refine ⟨?_, ?_, ?_, ?_⟩ <;> (rw [hc4 _ _ (by simp)]; simp)); clear hb4))
    go_ret
    exact ⟨rfl, HB4.out⟩
  have hst := of_decide_eq_true hb
  have hy := itoa_size (n := st) (by omega) (by omega)
  have hx := text_size hd HTS.out
  have HY : Hid (∀ w, True → Calls Tryd.prog 30 #[.int .i64 st] w fun e w' => e = .returned (.string (itoaE st)) ∧ Below w.heap.size w w') := fun w h => l06Digits_any st w (by omega) (by omega)
  have HX : Hid (∀ w, True → Calls Tryd.prog 31 #[.agg #[.int .i64 vk, .int .i64 n, .string t, .int .i64 r]] w fun e w' => e = .returned (.string (textV vk n t r)) ∧ Below w.heap.size w w') := fun w h => spec_ValueText_any vk n t r w HTS.out
  have hk := kind5 ha
  clear ha hb hc hd
  rw [show (true && true && true && true) = true from rfl, if_pos rfl]
  generalize itoaE st = y at hy HY ⊢
  generalize textV vk n t r = x at hx HX ⊢
  rcases hk with rfl | rfl | rfl | rfl | rfl
  · show Calls _ _ _ _ fun e w' => e = .returned (.string (y ++ ⟨#[58, 32]⟩ ++ nm ++ ⟨#[32, 61, 32]⟩ ++ x)) ∧ _
    have tk1 : True := trivial
    go_enter Tryd.func12, Tryd.ntmps12
    go_wp2_with (first
        | (go_at_call 29; have tk := tk1; refine (l00In_any 1 1 5 _).mono ?_; rintro e w1 ⟨rfl, rfl⟩; rw [HA.out]; clear tk tk1)
        | (go_at_call 29; refine (l00In_any st 1 1000 _).mono ?_; rintro e w1 ⟨rfl, rfl⟩; rw [HB.out])
        | (go_at_call 26; refine (spec_IsName_any _ _ HNS.out).mono ?_; rintro e w1 ⟨rfl, rfl⟩; rw [HC.out])
        | (go_at_call 25; refine (spec_ValidValue_any _ _ _ _ _ HS.out).mono ?_; rintro e w4 ⟨rfl, hb4⟩; rw [HD.out]; have HB4 := Lib.hid ((HL.out _).trans (hb4.mono (B' := W.heap.size) (by simp))); have HL4 : Hid (W.heap.size < w4.heap.size) := Nat.lt_of_lt_of_le (by simp) hb4.size; have HV4 : Hid (V4 w4 W.heap.size vk n t r) := (by show V4 _ _ _ _ _ _; obtain ⟨hc4, _⟩ := bcell hb4; refine ⟨?_, ?_, ?_, ?_⟩ <;> (rw [hc4 _ _ (by simp)]; simp)); clear hb4)
        | (go_at_call 30; refine (HY.out _ trivial).mono ?_; rintro e w5 ⟨rfl, hb5⟩; have HB5 := Lib.hid (HB4.out.trans (hb5.mono HB4.out.size)); obtain ⟨p0, p1, p2, p3⟩ := v4_down HV4.out HL4.out hb5; clear hb5)
        | (go_at_call 31; refine (HX.out _ trivial).mono ?_; rintro e w6 ⟨rfl, hb6⟩; have HB6 := Lib.hid (HB5.out.trans (hb6.mono HB5.out.size)); clear hb6))
    go_ret
    exact ⟨rfl, HB6.out⟩
  · show Calls _ _ _ _ fun e w' => e = .returned (.string (y ++ ⟨#[58, 32]⟩ ++ ⟨#[99, 97, 108, 108, 32]⟩ ++ nm)) ∧ _
    have tk1 : True := trivial
    go_enter Tryd.func12, Tryd.ntmps12
    go_wp2_with (first
        | (go_at_call 29; have tk := tk1; refine (l00In_any 2 1 5 _).mono ?_; rintro e w1 ⟨rfl, rfl⟩; rw [HA.out]; clear tk tk1)
        | (go_at_call 29; refine (l00In_any st 1 1000 _).mono ?_; rintro e w1 ⟨rfl, rfl⟩; rw [HB.out])
        | (go_at_call 26; refine (spec_IsName_any _ _ HNS.out).mono ?_; rintro e w1 ⟨rfl, rfl⟩; rw [HC.out])
        | (go_at_call 25; refine (spec_ValidValue_any _ _ _ _ _ HS.out).mono ?_; rintro e w4 ⟨rfl, hb4⟩; rw [HD.out]; have HB4 := Lib.hid ((HL.out _).trans (hb4.mono (B' := W.heap.size) (by simp))); have HL4 : Hid (W.heap.size < w4.heap.size) := Nat.lt_of_lt_of_le (by simp) hb4.size; have HV4 : Hid (V4 w4 W.heap.size vk n t r) := (by show V4 _ _ _ _ _ _; obtain ⟨hc4, _⟩ := bcell hb4; refine ⟨?_, ?_, ?_, ?_⟩ <;> (rw [hc4 _ _ (by simp)]; simp)); clear hb4)
        | (go_at_call 30; refine (HY.out _ trivial).mono ?_; rintro e w5 ⟨rfl, hb5⟩; have HB5 := Lib.hid (HB4.out.trans (hb5.mono HB4.out.size)); obtain ⟨p0, p1, p2, p3⟩ := v4_down HV4.out HL4.out hb5; clear hb5))
    go_ret
    exact ⟨rfl, HB5.out⟩
  · show Calls _ _ _ _ fun e w' => e = .returned (.string (y ++ ⟨#[58, 32]⟩ ++ ⟨#[114, 101, 116, 117, 114, 110, 32]⟩ ++ nm ++ ⟨#[32, 61, 32]⟩ ++ x)) ∧ _
    have tk1 : True := trivial
    go_enter Tryd.func12, Tryd.ntmps12
    go_wp2_with (first
        | (go_at_call 29; have tk := tk1; refine (l00In_any 3 1 5 _).mono ?_; rintro e w1 ⟨rfl, rfl⟩; rw [HA.out]; clear tk tk1)
        | (go_at_call 29; refine (l00In_any st 1 1000 _).mono ?_; rintro e w1 ⟨rfl, rfl⟩; rw [HB.out])
        | (go_at_call 26; refine (spec_IsName_any _ _ HNS.out).mono ?_; rintro e w1 ⟨rfl, rfl⟩; rw [HC.out])
        | (go_at_call 25; refine (spec_ValidValue_any _ _ _ _ _ HS.out).mono ?_; rintro e w4 ⟨rfl, hb4⟩; rw [HD.out]; have HB4 := Lib.hid ((HL.out _).trans (hb4.mono (B' := W.heap.size) (by simp))); have HL4 : Hid (W.heap.size < w4.heap.size) := Nat.lt_of_lt_of_le (by simp) hb4.size; have HV4 : Hid (V4 w4 W.heap.size vk n t r) := (by show V4 _ _ _ _ _ _; obtain ⟨hc4, _⟩ := bcell hb4; refine ⟨?_, ?_, ?_, ?_⟩ <;> (rw [hc4 _ _ (by simp)]; simp)); clear hb4)
        | (go_at_call 30; refine (HY.out _ trivial).mono ?_; rintro e w5 ⟨rfl, hb5⟩; have HB5 := Lib.hid (HB4.out.trans (hb5.mono HB4.out.size)); obtain ⟨p0, p1, p2, p3⟩ := v4_down HV4.out HL4.out hb5; clear hb5)
        | (go_at_call 31; refine (HX.out _ trivial).mono ?_; rintro e w6 ⟨rfl, hb6⟩; have HB6 := Lib.hid (HB5.out.trans (hb6.mono HB5.out.size)); clear hb6))
    go_ret
    exact ⟨rfl, HB6.out⟩
  · show Calls _ _ _ _ fun e w' => e = .returned (.string (y ++ ⟨#[58, 32]⟩ ++ ⟨#[102, 97, 105, 108, 32]⟩ ++ nm)) ∧ _
    have tk1 : True := trivial
    go_enter Tryd.func12, Tryd.ntmps12
    go_wp2_with (first
        | (go_at_call 29; have tk := tk1; refine (l00In_any 4 1 5 _).mono ?_; rintro e w1 ⟨rfl, rfl⟩; rw [HA.out]; clear tk tk1)
        | (go_at_call 29; refine (l00In_any st 1 1000 _).mono ?_; rintro e w1 ⟨rfl, rfl⟩; rw [HB.out])
        | (go_at_call 26; refine (spec_IsName_any _ _ HNS.out).mono ?_; rintro e w1 ⟨rfl, rfl⟩; rw [HC.out])
        | (go_at_call 25; refine (spec_ValidValue_any _ _ _ _ _ HS.out).mono ?_; rintro e w4 ⟨rfl, hb4⟩; rw [HD.out]; have HB4 := Lib.hid ((HL.out _).trans (hb4.mono (B' := W.heap.size) (by simp))); have HL4 : Hid (W.heap.size < w4.heap.size) := Nat.lt_of_lt_of_le (by simp) hb4.size; have HV4 : Hid (V4 w4 W.heap.size vk n t r) := (by show V4 _ _ _ _ _ _; obtain ⟨hc4, _⟩ := bcell hb4; refine ⟨?_, ?_, ?_, ?_⟩ <;> (rw [hc4 _ _ (by simp)]; simp)); clear hb4)
        | (go_at_call 30; refine (HY.out _ trivial).mono ?_; rintro e w5 ⟨rfl, hb5⟩; have HB5 := Lib.hid (HB4.out.trans (hb5.mono HB4.out.size)); obtain ⟨p0, p1, p2, p3⟩ := v4_down HV4.out HL4.out hb5; clear hb5))
    go_ret
    exact ⟨rfl, HB5.out⟩
  · show Calls _ _ _ _ fun e w' => e = .returned (.string (y ++ ⟨#[58, 32]⟩ ++ ⟨#[103, 111, 116, 111, 32]⟩ ++ nm)) ∧ _
    have tk1 : True := trivial
    go_enter Tryd.func12, Tryd.ntmps12
    go_wp2_with (first
        | (go_at_call 29; have tk := tk1; refine (l00In_any 5 1 5 _).mono ?_; rintro e w1 ⟨rfl, rfl⟩; rw [HA.out]; clear tk tk1)
        | (go_at_call 29; refine (l00In_any st 1 1000 _).mono ?_; rintro e w1 ⟨rfl, rfl⟩; rw [HB.out])
        | (go_at_call 26; refine (spec_IsName_any _ _ HNS.out).mono ?_; rintro e w1 ⟨rfl, rfl⟩; rw [HC.out])
        | (go_at_call 25; refine (spec_ValidValue_any _ _ _ _ _ HS.out).mono ?_; rintro e w4 ⟨rfl, hb4⟩; rw [HD.out]; have HB4 := Lib.hid ((HL.out _).trans (hb4.mono (B' := W.heap.size) (by simp))); have HL4 : Hid (W.heap.size < w4.heap.size) := Nat.lt_of_lt_of_le (by simp) hb4.size; have HV4 : Hid (V4 w4 W.heap.size vk n t r) := (by show V4 _ _ _ _ _ _; obtain ⟨hc4, _⟩ := bcell hb4; refine ⟨?_, ?_, ?_, ?_⟩ <;> (rw [hc4 _ _ (by simp)]; simp)); clear hb4)
        | (go_at_call 30; refine (HY.out _ trivial).mono ?_; rintro e w5 ⟨rfl, hb5⟩; have HB5 := Lib.hid (HB4.out.trans (hb5.mono HB4.out.size)); obtain ⟨p0, p1, p2, p3⟩ := v4_down HV4.out HL4.out hb5; clear hb5))
    go_ret
    exact ⟨rfl, HB5.out⟩

/-- The tables that TraceText of the program reads. -/
def TraceTabs (m : Int) (W : World) : Prop := Classes W ∧ RowsTab W ∧ PowTab W ∧ 3 < W.heap.size ∧ W.cell? ⟨6, 0, none⟩ = some (.int .i64 m) ∧ WordsTab W
theorem TraceTabs.go {m : Int} {W W' : World} (h : TraceTabs m W) (hb : Below W.heap.size W W') : TraceTabs m W' :=
  ⟨classes_go h.1 hb, h.2.1.below hb h.2.1.lt, var?_below hb gPow h.2.2.2.1 h.2.2.1, Nat.lt_of_lt_of_le h.2.2.2.1 hb.size, (hb.cell (p := ⟨6, 0, none⟩) (heap_pos h.2.2.2.2.1)).trans h.2.2.2.2.1, h.2.2.2.2.2.go hb⟩

set_option maxHeartbeats 500000 in
set_option maxRecDepth 100000 in
theorem impl_TraceText_any (m : Int) (k st : Int) (nm : ByteArray) (vk n : Int) (t : ByteArray) (r : Int) (W : World) (hn : nm.size ≤ 1048576) (ht : t.size ≤ 1048576) (hT : TraceTabs m W) :
    Calls Tryd.prog 13 #[.int .i64 k, .int .i64 st, .string nm, .agg #[.int .i64 vk, .int .i64 n, .string t, .int .i64 r]] W fun e w' => e = .returned (.string (traceT k st nm vk n t r)) ∧ Below W.heap.size W w' := by
  have HS : Hid (t.size ≤ maxLen) := by show _ ≤ _; unfold maxLen; omega
  have HNS : Hid (nm.size ≤ maxLen) := by show _ ≤ _; unfold maxLen; omega
  have HTS := Lib.hid ht
  have HTT := Lib.hid hT
  have HT := Lib.hid hT.1
  clear hT
  unfold traceT traceB
  obtain ⟨a, ha⟩ : ∃ a, decide (1 ≤ k ∧ k ≤ 5) = a := ⟨_, rfl⟩
  obtain ⟨b, hb⟩ : ∃ b, decide (1 ≤ st ∧ st ≤ 1000) = b := ⟨_, rfl⟩
  obtain ⟨c, hc⟩ : ∃ c, isNameB nm = c := ⟨_, rfl⟩
  obtain ⟨d, hd⟩ : ∃ d, validV vk n t r = d := ⟨_, rfl⟩
  have HA := Lib.hid ha
  have HB := Lib.hid hb
  have HC := Lib.hid hc
  have HD := Lib.hid hd
  rw [ha, hb, hc, hd]
  have HL : Hid (∀ o, Below W.heap.size W (W.alloc o)) := fun o => (Below.refl _ _).alloc (Nat.le_refl _) o

  cases a
  · have tk1 : True := trivial
    clear ha hb hc hd
    go_enter Tryd.func13, Tryd.ntmps13
    go_wp2_with (first
        | (go_at_call 32; have tk := tk1; refine (within_i64 k 1 5 _).mono ?_; rintro e w1 ⟨rfl, rfl⟩; rw [HA.out]; clear tk tk1))
    go_ret
    exact ⟨rfl, HL.out _⟩
  cases b
  · have tk1 : True := trivial
    clear ha hb hc hd
    go_enter Tryd.func13, Tryd.ntmps13
    go_wp2_with (first
        | (go_at_call 32; have tk := tk1; refine (within_i64 k 1 5 _).mono ?_; rintro e w1 ⟨rfl, rfl⟩; rw [HA.out]; clear tk tk1)
        | (go_at_call 32; refine (within_i64 st 1 1000 _).mono ?_; rintro e w1 ⟨rfl, rfl⟩; rw [HB.out]))
    go_ret
    exact ⟨rfl, HL.out _⟩
  cases c
  · have tk1 : True := trivial
    clear ha hb hc hd
    go_enter Tryd.func13, Tryd.ntmps13
    go_wp2_with (first
        | (go_at_call 32; have tk := tk1; refine (within_i64 k 1 5 _).mono ?_; rintro e w1 ⟨rfl, rfl⟩; rw [HA.out]; clear tk tk1)
        | (go_at_call 32; refine (within_i64 st 1 1000 _).mono ?_; rintro e w1 ⟨rfl, rfl⟩; rw [HB.out])
        | (go_at_call 28; refine (impl_IsName_any _ _ HNS.out (classes_go HT.out (HL.out _))).mono ?_; rintro e w3 ⟨rfl, hb3⟩; rw [HC.out]; have HB3 := Lib.hid ((HL.out _).trans (hb3.mono (B' := W.heap.size) (by simp))); have HL3 : Hid (W.heap.size < w3.heap.size) := Nat.lt_of_lt_of_le (by simp) hb3.size; obtain ⟨hc3, hf3⟩ := bcell hb3; clear hb3))
    go_ret
    exact ⟨rfl, HB3.out⟩
  cases d
  · have tk1 : True := trivial
    clear ha hb hc hd
    go_enter Tryd.func13, Tryd.ntmps13
    go_wp2_with (first
        | (go_at_call 32; have tk := tk1; refine (within_i64 k 1 5 _).mono ?_; rintro e w1 ⟨rfl, rfl⟩; rw [HA.out]; clear tk tk1)
        | (go_at_call 32; refine (within_i64 st 1 1000 _).mono ?_; rintro e w1 ⟨rfl, rfl⟩; rw [HB.out])
        | (go_at_call 28; refine (impl_IsName_any _ _ HNS.out (classes_go HT.out (HL.out _))).mono ?_; rintro e w3 ⟨rfl, hb3⟩; rw [HC.out]; have HB3 := Lib.hid ((HL.out _).trans (hb3.mono (B' := W.heap.size) (by simp))); have HL3 : Hid (W.heap.size < w3.heap.size) := Nat.lt_of_lt_of_le (by simp) hb3.size; obtain ⟨hc3, hf3⟩ := bcell hb3; clear hb3)
        | (go_at_call 27; refine (impl_ValidValue_any _ _ _ _ _ HS.out (classes_go HT.out HB3.out)).mono ?_; rintro e w4 ⟨rfl, hb4⟩; rw [HD.out]; have HB4 := Lib.hid (HB3.out.trans (hb4.mono HB3.out.size)); have HL4 : Hid (W.heap.size < w4.heap.size) := Nat.lt_of_lt_of_le HL3.out hb4.size; have HV4 : Hid (V4 w4 W.heap.size vk n t r) := (by have := HL3.out; show V4 _ _ _ _ _ _; obtain ⟨hc4, _⟩ := bcell hb4; refine ⟨?_, ?_, ?_, ?_⟩ <;> (rw [hc4 _ _ HL3.out, hc3 _ _ (by simp)]; simp)); clear hb4 hc3 hf3))
    go_ret
    exact ⟨rfl, HB4.out⟩
  have hst := of_decide_eq_true hb
  have hy := itoa_size (n := st) (by omega) (by omega)
  have hx := text_size hd HTS.out
  have HY : Hid (∀ w, TraceTabs m w → Calls Tryd.prog 33 #[.int .i64 st, .int .i64 10] w fun e w' => e = .returned (.string (itoaE st)) ∧ Below w.heap.size w w') := fun w h => FormatInt_all st w (by omega) (by omega) h.2.2.1
  have HX : Hid (∀ w, TraceTabs m w → Calls Tryd.prog 34 #[.agg #[.int .i64 vk, .int .i64 n, .string t, .int .i64 r]] w fun e w' => e = .returned (.string (textV vk n t r)) ∧ Below w.heap.size w w') := fun w h => impl_ValueText_any vk n t r m w HTS.out h.1 h.2.1 h.2.2.1 h.2.2.2.1 h.2.2.2.2.1
  have hk := kind5 ha
  clear ha hb hc hd
  rw [show (true && true && true && true) = true from rfl, if_pos rfl]
  generalize itoaE st = y at hy HY ⊢
  generalize textV vk n t r = x at hx HX ⊢
  rcases hk with rfl | rfl | rfl | rfl | rfl
  · show Calls _ _ _ _ fun e w' => e = .returned (.string (y ++ ⟨#[58, 32]⟩ ++ nm ++ ⟨#[32, 61, 32]⟩ ++ x)) ∧ _
    have tk1 : True := trivial
    go_enter Tryd.func13, Tryd.ntmps13
    go_wp2_with (first
        | (go_at_call 32; have tk := tk1; refine (within_i64 1 1 5 _).mono ?_; rintro e w1 ⟨rfl, rfl⟩; rw [HA.out]; clear tk tk1)
        | (go_at_call 32; refine (within_i64 st 1 1000 _).mono ?_; rintro e w1 ⟨rfl, rfl⟩; rw [HB.out])
        | (go_at_call 28; refine (impl_IsName_any _ _ HNS.out (classes_go HT.out (HL.out _))).mono ?_; rintro e w3 ⟨rfl, hb3⟩; rw [HC.out]; have HB3 := Lib.hid ((HL.out _).trans (hb3.mono (B' := W.heap.size) (by simp))); have HL3 : Hid (W.heap.size < w3.heap.size) := Nat.lt_of_lt_of_le (by simp) hb3.size; obtain ⟨hc3, hf3⟩ := bcell hb3; clear hb3)
        | (go_at_call 27; refine (impl_ValidValue_any _ _ _ _ _ HS.out (classes_go HT.out HB3.out)).mono ?_; rintro e w4 ⟨rfl, hb4⟩; rw [HD.out]; have HB4 := Lib.hid (HB3.out.trans (hb4.mono HB3.out.size)); have HL4 : Hid (W.heap.size < w4.heap.size) := Nat.lt_of_lt_of_le HL3.out hb4.size; have HV4 : Hid (V4 w4 W.heap.size vk n t r) := (by have := HL3.out; show V4 _ _ _ _ _ _; obtain ⟨hc4, _⟩ := bcell hb4; refine ⟨?_, ?_, ?_, ?_⟩ <;> (rw [hc4 _ _ HL3.out, hc3 _ _ (by simp)]; simp)); clear hb4 hc3 hf3))
    have HT4 := Lib.hid (HTT.out.go HB4.out)
    have cw := HT4.out.2.2.2.2.2 0 (.string ⟨#[]⟩) (by unfold wordFacts; repeat (first | exact .head _ | apply List.Mem.tail))
    have xw := cell_regrown cw
    have cY := fun (d : Nat) (os : Array Obj) => Calls.regrown_of (w := w4) (d := d) (os := os) (HY.out _ (HT4.out.go (below_regrown w4 d os)))
    refine wp_region_quiet_below (by kernel_rfl) (by kernel_rfl) ?_
    repeat (first | go_big_quiet_step (with_reducible exact cY _ _) | quiet_step (with_reducible exact cY _ _))
    refine wpQuiet_nil ?_
    intro w5 hw'
    obtain ⟨⟨dq, osq⟩, hw''⟩ := hw'
    have hb5 : Below w4.heap.size w4 w5 := by rw [hw'']; exact below_regrown w4 dq osq
    have HB5 := Lib.hid (HB4.out.trans (hb5.mono HB4.out.size))
    have HT5 := Lib.hid (HT4.out.go hb5)
    obtain ⟨p0, p1, p2, p3⟩ := v4_down HV4.out HL4.out hb5
    clear hw'' hb5 cw xw cY
    go_wp2_with (go_at_call 34; refine (HX.out _ HT5.out).mono ?_; rintro e w6 ⟨rfl, hb6⟩; have HB6 := Lib.hid (HB5.out.trans (hb6.mono HB5.out.size)); clear hb6)
    go_ret
    exact ⟨str_ret (by simp only [ByteArray.append_assoc, app_nil, nil_app]), HB6.out⟩
  · show Calls _ _ _ _ fun e w' => e = .returned (.string (y ++ ⟨#[58, 32]⟩ ++ ⟨#[99, 97, 108, 108, 32]⟩ ++ nm)) ∧ _
    have tk1 : True := trivial
    go_enter Tryd.func13, Tryd.ntmps13
    go_wp2_with (first
        | (go_at_call 32; have tk := tk1; refine (within_i64 2 1 5 _).mono ?_; rintro e w1 ⟨rfl, rfl⟩; rw [HA.out]; clear tk tk1)
        | (go_at_call 32; refine (within_i64 st 1 1000 _).mono ?_; rintro e w1 ⟨rfl, rfl⟩; rw [HB.out])
        | (go_at_call 28; refine (impl_IsName_any _ _ HNS.out (classes_go HT.out (HL.out _))).mono ?_; rintro e w3 ⟨rfl, hb3⟩; rw [HC.out]; have HB3 := Lib.hid ((HL.out _).trans (hb3.mono (B' := W.heap.size) (by simp))); have HL3 : Hid (W.heap.size < w3.heap.size) := Nat.lt_of_lt_of_le (by simp) hb3.size; obtain ⟨hc3, hf3⟩ := bcell hb3; clear hb3)
        | (go_at_call 27; refine (impl_ValidValue_any _ _ _ _ _ HS.out (classes_go HT.out HB3.out)).mono ?_; rintro e w4 ⟨rfl, hb4⟩; rw [HD.out]; have HB4 := Lib.hid (HB3.out.trans (hb4.mono HB3.out.size)); have HL4 : Hid (W.heap.size < w4.heap.size) := Nat.lt_of_lt_of_le HL3.out hb4.size; have HV4 : Hid (V4 w4 W.heap.size vk n t r) := (by have := HL3.out; show V4 _ _ _ _ _ _; obtain ⟨hc4, _⟩ := bcell hb4; refine ⟨?_, ?_, ?_, ?_⟩ <;> (rw [hc4 _ _ HL3.out, hc3 _ _ (by simp)]; simp)); clear hb4 hc3 hf3))
    have HT4 := Lib.hid (HTT.out.go HB4.out)
    have cw := HT4.out.2.2.2.2.2 1 (.string ⟨#[99, 97, 108, 108, 32]⟩) (by unfold wordFacts; repeat (first | exact .head _ | apply List.Mem.tail))
    have xw := cell_regrown cw
    have cY := fun (d : Nat) (os : Array Obj) => Calls.regrown_of (w := w4) (d := d) (os := os) (HY.out _ (HT4.out.go (below_regrown w4 d os)))
    refine wp_region_quiet_below (by kernel_rfl) (by kernel_rfl) ?_
    repeat (first | go_big_quiet_step (with_reducible exact cY _ _) | quiet_step (with_reducible exact cY _ _))
    refine wpQuiet_nil ?_
    intro w5 hw'
    obtain ⟨⟨dq, osq⟩, hw''⟩ := hw'
    have hb5 : Below w4.heap.size w4 w5 := by rw [hw'']; exact below_regrown w4 dq osq
    have HB5 := Lib.hid (HB4.out.trans (hb5.mono HB4.out.size))
    have HT5 := Lib.hid (HT4.out.go hb5)
    obtain ⟨p0, p1, p2, p3⟩ := v4_down HV4.out HL4.out hb5
    clear hw'' hb5 cw xw cY
    go_wp2_with fail
    go_ret
    exact ⟨rfl, HB5.out⟩
  · show Calls _ _ _ _ fun e w' => e = .returned (.string (y ++ ⟨#[58, 32]⟩ ++ ⟨#[114, 101, 116, 117, 114, 110, 32]⟩ ++ nm ++ ⟨#[32, 61, 32]⟩ ++ x)) ∧ _
    have tk1 : True := trivial
    go_enter Tryd.func13, Tryd.ntmps13
    go_wp2_with (first
        | (go_at_call 32; have tk := tk1; refine (within_i64 3 1 5 _).mono ?_; rintro e w1 ⟨rfl, rfl⟩; rw [HA.out]; clear tk tk1)
        | (go_at_call 32; refine (within_i64 st 1 1000 _).mono ?_; rintro e w1 ⟨rfl, rfl⟩; rw [HB.out])
        | (go_at_call 28; refine (impl_IsName_any _ _ HNS.out (classes_go HT.out (HL.out _))).mono ?_; rintro e w3 ⟨rfl, hb3⟩; rw [HC.out]; have HB3 := Lib.hid ((HL.out _).trans (hb3.mono (B' := W.heap.size) (by simp))); have HL3 : Hid (W.heap.size < w3.heap.size) := Nat.lt_of_lt_of_le (by simp) hb3.size; obtain ⟨hc3, hf3⟩ := bcell hb3; clear hb3)
        | (go_at_call 27; refine (impl_ValidValue_any _ _ _ _ _ HS.out (classes_go HT.out HB3.out)).mono ?_; rintro e w4 ⟨rfl, hb4⟩; rw [HD.out]; have HB4 := Lib.hid (HB3.out.trans (hb4.mono HB3.out.size)); have HL4 : Hid (W.heap.size < w4.heap.size) := Nat.lt_of_lt_of_le HL3.out hb4.size; have HV4 : Hid (V4 w4 W.heap.size vk n t r) := (by have := HL3.out; show V4 _ _ _ _ _ _; obtain ⟨hc4, _⟩ := bcell hb4; refine ⟨?_, ?_, ?_, ?_⟩ <;> (rw [hc4 _ _ HL3.out, hc3 _ _ (by simp)]; simp)); clear hb4 hc3 hf3))
    have HT4 := Lib.hid (HTT.out.go HB4.out)
    have cw := HT4.out.2.2.2.2.2 2 (.string ⟨#[114, 101, 116, 117, 114, 110, 32]⟩) (by unfold wordFacts; repeat (first | exact .head _ | apply List.Mem.tail))
    have xw := cell_regrown cw
    have cY := fun (d : Nat) (os : Array Obj) => Calls.regrown_of (w := w4) (d := d) (os := os) (HY.out _ (HT4.out.go (below_regrown w4 d os)))
    refine wp_region_quiet_below (by kernel_rfl) (by kernel_rfl) ?_
    repeat (first | go_big_quiet_step (with_reducible exact cY _ _) | quiet_step (with_reducible exact cY _ _))
    refine wpQuiet_nil ?_
    intro w5 hw'
    obtain ⟨⟨dq, osq⟩, hw''⟩ := hw'
    have hb5 : Below w4.heap.size w4 w5 := by rw [hw'']; exact below_regrown w4 dq osq
    have HB5 := Lib.hid (HB4.out.trans (hb5.mono HB4.out.size))
    have HT5 := Lib.hid (HT4.out.go hb5)
    obtain ⟨p0, p1, p2, p3⟩ := v4_down HV4.out HL4.out hb5
    clear hw'' hb5 cw xw cY
    go_wp2_with (go_at_call 34; refine (HX.out _ HT5.out).mono ?_; rintro e w6 ⟨rfl, hb6⟩; have HB6 := Lib.hid (HB5.out.trans (hb6.mono HB5.out.size)); clear hb6)
    go_ret
    exact ⟨str_ret (by simp only [ByteArray.append_assoc, app_nil, nil_app]), HB6.out⟩
  · show Calls _ _ _ _ fun e w' => e = .returned (.string (y ++ ⟨#[58, 32]⟩ ++ ⟨#[102, 97, 105, 108, 32]⟩ ++ nm)) ∧ _
    have tk1 : True := trivial
    go_enter Tryd.func13, Tryd.ntmps13
    go_wp2_with (first
        | (go_at_call 32; have tk := tk1; refine (within_i64 4 1 5 _).mono ?_; rintro e w1 ⟨rfl, rfl⟩; rw [HA.out]; clear tk tk1)
        | (go_at_call 32; refine (within_i64 st 1 1000 _).mono ?_; rintro e w1 ⟨rfl, rfl⟩; rw [HB.out])
        | (go_at_call 28; refine (impl_IsName_any _ _ HNS.out (classes_go HT.out (HL.out _))).mono ?_; rintro e w3 ⟨rfl, hb3⟩; rw [HC.out]; have HB3 := Lib.hid ((HL.out _).trans (hb3.mono (B' := W.heap.size) (by simp))); have HL3 : Hid (W.heap.size < w3.heap.size) := Nat.lt_of_lt_of_le (by simp) hb3.size; obtain ⟨hc3, hf3⟩ := bcell hb3; clear hb3)
        | (go_at_call 27; refine (impl_ValidValue_any _ _ _ _ _ HS.out (classes_go HT.out HB3.out)).mono ?_; rintro e w4 ⟨rfl, hb4⟩; rw [HD.out]; have HB4 := Lib.hid (HB3.out.trans (hb4.mono HB3.out.size)); have HL4 : Hid (W.heap.size < w4.heap.size) := Nat.lt_of_lt_of_le HL3.out hb4.size; have HV4 : Hid (V4 w4 W.heap.size vk n t r) := (by have := HL3.out; show V4 _ _ _ _ _ _; obtain ⟨hc4, _⟩ := bcell hb4; refine ⟨?_, ?_, ?_, ?_⟩ <;> (rw [hc4 _ _ HL3.out, hc3 _ _ (by simp)]; simp)); clear hb4 hc3 hf3))
    have HT4 := Lib.hid (HTT.out.go HB4.out)
    have cw := HT4.out.2.2.2.2.2 3 (.string ⟨#[102, 97, 105, 108, 32]⟩) (by unfold wordFacts; repeat (first | exact .head _ | apply List.Mem.tail))
    have xw := cell_regrown cw
    have cY := fun (d : Nat) (os : Array Obj) => Calls.regrown_of (w := w4) (d := d) (os := os) (HY.out _ (HT4.out.go (below_regrown w4 d os)))
    refine wp_region_quiet_below (by kernel_rfl) (by kernel_rfl) ?_
    repeat (first | go_big_quiet_step (with_reducible exact cY _ _) | quiet_step (with_reducible exact cY _ _))
    refine wpQuiet_nil ?_
    intro w5 hw'
    obtain ⟨⟨dq, osq⟩, hw''⟩ := hw'
    have hb5 : Below w4.heap.size w4 w5 := by rw [hw'']; exact below_regrown w4 dq osq
    have HB5 := Lib.hid (HB4.out.trans (hb5.mono HB4.out.size))
    have HT5 := Lib.hid (HT4.out.go hb5)
    obtain ⟨p0, p1, p2, p3⟩ := v4_down HV4.out HL4.out hb5
    clear hw'' hb5 cw xw cY
    go_wp2_with fail
    go_ret
    exact ⟨rfl, HB5.out⟩
  · show Calls _ _ _ _ fun e w' => e = .returned (.string (y ++ ⟨#[58, 32]⟩ ++ ⟨#[103, 111, 116, 111, 32]⟩ ++ nm)) ∧ _
    have tk1 : True := trivial
    go_enter Tryd.func13, Tryd.ntmps13
    go_wp2_with (first
        | (go_at_call 32; have tk := tk1; refine (within_i64 5 1 5 _).mono ?_; rintro e w1 ⟨rfl, rfl⟩; rw [HA.out]; clear tk tk1)
        | (go_at_call 32; refine (within_i64 st 1 1000 _).mono ?_; rintro e w1 ⟨rfl, rfl⟩; rw [HB.out])
        | (go_at_call 28; refine (impl_IsName_any _ _ HNS.out (classes_go HT.out (HL.out _))).mono ?_; rintro e w3 ⟨rfl, hb3⟩; rw [HC.out]; have HB3 := Lib.hid ((HL.out _).trans (hb3.mono (B' := W.heap.size) (by simp))); have HL3 : Hid (W.heap.size < w3.heap.size) := Nat.lt_of_lt_of_le (by simp) hb3.size; obtain ⟨hc3, hf3⟩ := bcell hb3; clear hb3)
        | (go_at_call 27; refine (impl_ValidValue_any _ _ _ _ _ HS.out (classes_go HT.out HB3.out)).mono ?_; rintro e w4 ⟨rfl, hb4⟩; rw [HD.out]; have HB4 := Lib.hid (HB3.out.trans (hb4.mono HB3.out.size)); have HL4 : Hid (W.heap.size < w4.heap.size) := Nat.lt_of_lt_of_le HL3.out hb4.size; have HV4 : Hid (V4 w4 W.heap.size vk n t r) := (by have := HL3.out; show V4 _ _ _ _ _ _; obtain ⟨hc4, _⟩ := bcell hb4; refine ⟨?_, ?_, ?_, ?_⟩ <;> (rw [hc4 _ _ HL3.out, hc3 _ _ (by simp)]; simp)); clear hb4 hc3 hf3))
    have HT4 := Lib.hid (HTT.out.go HB4.out)
    have cw := HT4.out.2.2.2.2.2 4 (.string ⟨#[103, 111, 116, 111, 32]⟩) (by unfold wordFacts; repeat (first | exact .head _ | apply List.Mem.tail))
    have xw := cell_regrown cw
    have cY := fun (d : Nat) (os : Array Obj) => Calls.regrown_of (w := w4) (d := d) (os := os) (HY.out _ (HT4.out.go (below_regrown w4 d os)))
    refine wp_region_quiet_below (by kernel_rfl) (by kernel_rfl) ?_
    repeat (first | go_big_quiet_step (with_reducible exact cY _ _) | quiet_step (with_reducible exact cY _ _))
    refine wpQuiet_nil ?_
    intro w5 hw'
    obtain ⟨⟨dq, osq⟩, hw''⟩ := hw'
    have hb5 : Below w4.heap.size w4 w5 := by rw [hw'']; exact below_regrown w4 dq osq
    have HB5 := Lib.hid (HB4.out.trans (hb5.mono HB4.out.size))
    have HT5 := Lib.hid (HT4.out.go hb5)
    obtain ⟨p0, p1, p2, p3⟩ := v4_down HV4.out HL4.out hb5
    clear hw'' hb5 cw xw cY
    go_wp2_with fail
    go_ret
    exact ⟨rfl, HB5.out⟩
end Go.Proofs.YtjhemdgeafglhaaDoor
