/- What a variable's value is; contracts of the model's l18Value, Lookup. No condition. -/
import Derived.Test.YtnedihiagaepjaaDoorVsSpec
import Derived.Laws.ResultCell
namespace Go.Proofs.YtnedihiagaepjaaDoor
open Go Go.RowKit

/-- The value of the first element of that name, or the null value. -/
def LookP (xs : List Bd) (s : ByteArray) (k n : Int) (t : ByteArray) (r : Int) : Prop :=
  (∃ (i : Nat) (b : Bd), xs[i]? = some b ∧ b.name_ = s ∧ (∀ j, j < i → ∀ c : Bd, xs[j]? = some c → c.name_ ≠ s) ∧ k = b.kind_ ∧ n = b.num_ ∧ t = b.text_ ∧ r = b.ref_) ∨
  ((∀ (j : Nat) (c : Bd), xs[j]? = some c → c.name_ ≠ s) ∧ k = 1 ∧ n = 0 ∧ t = ⟨#[]⟩ ∧ r = 0)
theorem LookP.uniq {xs : List Bd} {s : ByteArray} {k n : Int} {t : ByteArray} {r : Int} {k' n' : Int} {t' : ByteArray} {r' : Int} (h : LookP xs s k n t r) (h' : LookP xs s k' n' t' r') : k = k' ∧ n = n' ∧ t = t' ∧ r = r' := by
  rcases h with ⟨i, b, h1, h2, h3, rfl, rfl, rfl, rfl⟩ | ⟨h1, rfl, rfl, rfl, rfl⟩
  · rcases h' with ⟨i', b', h1', h2', h3', rfl, rfl, rfl, rfl⟩ | ⟨h1', _⟩
    · rcases Nat.lt_trichotomy i i' with h | h | h
      · exact absurd h2 (h3' i h b h1)
      · subst h
        rw [h1, Option.some.injEq] at h1'
        subst h1'
        exact ⟨rfl, rfl, rfl, rfl⟩
      · exact absurd h2' (h3 i' h b' h1')
    · exact absurd h2 (h1' i b h1)
  · rcases h' with ⟨i', b', h1', h2', _⟩ | ⟨_, rfl, rfl, rfl, rfl⟩
    · exact absurd h2' (h1 i' b' h1')
    · exact ⟨rfl, rfl, rfl, rfl⟩
theorem LookP.ex (xs : List Bd) (s : ByteArray) : ∃ k n t r, LookP xs s k n t r := by
  by_cases h : ∃ (i : Nat) (b : Bd), xs[i]? = some b ∧ b.name_ = s
  · have : ∀ n (i : Nat), i ≤ n → (∃ b : Bd, xs[i]? = some b ∧ b.name_ = s) → ∃ (m : Nat) (b : Bd), xs[m]? = some b ∧ b.name_ = s ∧ ∀ j, j < m → ∀ c : Bd, xs[j]? = some c → c.name_ ≠ s := by
      intro n
      induction n with
      | zero => rintro i hi ⟨b, hb, hs⟩; exact ⟨i, b, hb, hs, fun j hj => by omega⟩
      | succ n ih =>
        rintro i hi ⟨b, hb, hs⟩
        by_cases hh : ∃ j, j < i ∧ ∃ c : Bd, xs[j]? = some c ∧ c.name_ = s
        · obtain ⟨j, hj, hc⟩ := hh
          exact ih j (by omega) hc
        · exact ⟨i, b, hb, hs, fun j hj c hc e => hh ⟨j, hj, c, hc, e⟩⟩
    obtain ⟨i, b, hb, hs⟩ := h
    obtain ⟨m, c, h1, h2, h3⟩ := this i i (Nat.le_refl _) ⟨b, hb, hs⟩
    exact ⟨_, _, _, _, .inl ⟨m, c, h1, h2, h3, rfl, rfl, rfl, rfl⟩⟩
  · exact ⟨_, _, _, _, .inr ⟨fun j c hc e => h ⟨j, c, hc, e⟩, rfl, rfl, rfl, rfl⟩⟩
theorem LookP.size {w : World} {B m : Nat} {A : Option Addr} {xs : List Bd} {s : ByteArray} {k n : Int} {t : ByteArray} {r : Int} (hx : BdI w B A m xs) (h : LookP xs s k n t r) : t.size ≤ maxLen := by
  rcases h with ⟨i, b, h1, _, _, _, _, rfl, _⟩ | ⟨_, _, _, rfl, _⟩
  · have hl := (List.getElem?_eq_some_iff.1 h1).1
    obtain ⟨_, _, _, _, hc⟩ := hx.2.2 (by have := hx.1; omega)
    exact (hc i b h1).2.2
  · exact Nat.zero_le _

theorem l17Null_any (W : World) : Calls Tryd.prog 49 #[] W fun e w' => e = .returned (.agg #[.int .i64 1, .int .i64 0, .string ⟨#[]⟩, .int .i64 0]) ∧ Below W.heap.size W w' := by
  go_enter Tryd.func49, Tryd.ntmps49
  go_wp2
  exact bodyPost_ret (v := .agg #[.int .i64 1, .int .i64 0, .string ⟨#[]⟩, .int .i64 0]) (by simp [results, Tryd.results49, go_sem]) rfl
    ⟨rfl, by repeat (first | exact Below.refl _ _ | refine Below.setCell ?_ (by first | (simp; done) | (simp; omega)) _ | refine Below.alloc ?_ (by first | (simp; done) | (simp; omega)) _)⟩

set_option maxHeartbeats 4000000 in
set_option maxRecDepth 100000 in
theorem l18Value_any (A0 A1 A2 : Option Addr) (n0 c0 n1 c1 n2 c2 : Nat) (xs : List Bd) (s : ByteArray) (k n : Int) (t : ByteArray) (r : Int) (W : World) (hx : BdI W W.heap.size A0 n0 xs) (hl : LookP xs s k n t r) :
    Calls Tryd.prog 26 #[.agg #[.slice A0 n0 c0, .slice A1 n1 c1, .slice A2 n2 c2], .string s] W fun e w' => e = .returned (.agg #[.int .i64 k, .int .i64 n, .string t, .int .i64 r]) ∧ Below W.heap.size W w' := by
  have HX := Lib.hid hx
  have HL := Lib.hid hl
  have hn := hx.2.1
  unfold maxLen at hn
  have HC := Lib.hid (fun X (e : X = (W.alloc (.cells #[.slice A0 n0 c0, .slice A1 n1 c1, .slice A2 n2 c2] 36)).alloc (.cells #[.int .i64 0, .int .i64 0, .string ⟨#[]⟩, .int .i64 0] 29)) => (show RW 36 X W.heap.size #[.slice A0 n0 c0, .slice A1 n1 c1, .slice A2 n2 c2] ∧ RW 29 X (W.heap.size + 1) #[.int .i64 0, .int .i64 0, .string ⟨#[]⟩, .int .i64 0] ∧ Below W.heap.size W X from by
    subst e
    refine ⟨(RW.new W _ _).alloc _, ?_, (below_alloc _ _).alloc (by simp) _⟩
    have := RW.new (W.alloc (.cells #[.slice A0 n0 c0, .slice A1 n1 c1, .slice A2 n2 c2] 36)) #[.int .i64 0, .int .i64 0, .string ⟨#[]⟩, .int .i64 0] 29
    simpa using this))
  clear hx hl
  go_enter Tryd.func26, Tryd.ntmps26
  go_wp2_with fail
  go_loopw [5] (fun i wr => ∃ q : Nat, q ≤ n0 ∧ i = .int .i64 q ∧ wr.cell? ⟨W.heap.size, 0, none⟩ = some (.slice A0 n0 c0) ∧ Hid (RW 36 wr W.heap.size #[.slice A0 n0 c0, .slice A1 n1 c1, .slice A2 n2 c2] ∧ RW 29 wr (W.heap.size + 1) #[.int .i64 0, .int .i64 0, .string ⟨#[]⟩, .int .i64 0] ∧ Below W.heap.size W wr) ∧ Hid (∀ j, j < q → ∀ c : Bd, xs[j]? = some c → c.name_ ≠ s)) (fun i _ => n0 - (intOf i).toNat)
  case atStart => exact ⟨0, Nat.zero_le _, rfl, (HC.out _ rfl).1.cell 0, Lib.hid (HC.out _ rfl), Lib.hid (fun j hj => absurd hj (by omega))⟩
  case round =>
    obtain ⟨q, hq, rfl, r0, HB, HV⟩ := hrel
    by_cases hlt : q < n0
    · have b0 : (0 : Int) ≤ (q : Int) := by omega
      have b1 : (q : Int) < (n0 : Int) := by omega
      obtain ⟨b, off, x, rfl, hg, hxx, ⟨p0, p1, p2, p3, p4⟩, hm0, hm3⟩ := (HX.out.go HB.out.2.2).at_ hlt
      have HXX := Lib.hid hxx
      have HS := Lib.hid (@beq_bytes x.name_ s)
      clear hxx hg
      obtain ⟨z, hz⟩ : ∃ z, (x.name_.toList == s.toList) = z := ⟨_, rfl⟩
      have HZ := Lib.hid hz
      cases z
      · have HV2 : Hid (∀ j, j < q + 1 → ∀ c : Bd, xs[j]? = some c → c.name_ ≠ s) := by
          show ∀ _, _
          intro j hj c hc
          by_cases e : j = q
          · subst e
            rw [HXX.out, Option.some.injEq] at hc
            subst hc
            intro e2
            have h := HS.out.2 e2
            rw [HZ.out] at h
            cases h
          · exact HV.out j (by omega) c hc
        go_wp2_with fail
        go_roundw
        case rel => exact ⟨q + 1, by omega, by go_num, r0, HB, HV2⟩
        case measure => simp [intOf]; omega
      · have HE : Hid (k = x.kind_ ∧ n = x.num_ ∧ t = x.text_ ∧ r = x.ref_) := LookP.uniq HL.out (.inl ⟨q, x, HXX.out, HS.out.1 HZ.out, HV.out, rfl, rfl, rfl, rfl⟩)
        have z0 := HB.out.2.1.cell 0
        have z1 := HB.out.2.1.cell 1
        have z2 := HB.out.2.1.cell 2
        have z3 := HB.out.2.1.cell 3
        have f0 := HB.out.2.1.frozen 0
        have f1 := HB.out.2.1.frozen 1
        have f2 := HB.out.2.1.frozen 2
        have f3 := HB.out.2.1.frozen 3
        go_wp2_with fail
        refine bodyPost_ret (v := .agg #[.int .i64 x.kind_, .int .i64 x.num_, .string x.text_, .int .i64 x.ref_]) (results_cell_row Tryd.results26 _ _ (W.heap.size + 1) 29 _ (0, 0) _ rfl ((((HB.out.2.1.set_ 0 _).set_ 1 _).set_ 2 _).set_ 3 _) Tryd.underlying29 rfl (by kernel_rfl)) rfl ⟨?_, ?_⟩
        · rw [HE.out.1, HE.out.2.1, HE.out.2.2.1, HE.out.2.2.2]
        · exact (((HB.out.2.2.setCell (p := ⟨W.heap.size + 1, 0, none⟩) (by simp) _).setCell (p := ⟨W.heap.size + 1, 1, none⟩) (by simp) _).setCell (p := ⟨W.heap.size + 1, 2, none⟩) (by simp) _).setCell (p := ⟨W.heap.size + 1, 3, none⟩) (by simp) _
    · have HE : Hid (k = 1 ∧ n = 0 ∧ t = ⟨#[]⟩ ∧ r = 0) := LookP.uniq HL.out (.inr ⟨fun j c hc => HV.out j (by have := (List.getElem?_eq_some_iff.1 hc).1; have := HX.out.1; omega) c hc, rfl, rfl, rfl, rfl⟩)
      go_wp2_with (go_at_call 49; refine (l17Null_any _).mono ?_; rintro e w2 ⟨rfl, hb⟩; have HR2 := Lib.hid (HB.out.2.1.below hb HB.out.2.1.lt); have HB2 := Lib.hid (HB.out.2.2.trans (hb.mono HB.out.2.2.size)); have z0 := HR2.out.cell 0; have z1 := HR2.out.cell 1; have z2 := HR2.out.cell 2; have z3 := HR2.out.cell 3; have f0 := HR2.out.frozen 0; have f1 := HR2.out.frozen 1; have f2 := HR2.out.frozen 2; have f3 := HR2.out.frozen 3; clear hb)
      refine bodyPost_ret (v := .agg #[.int .i64 1, .int .i64 0, .string ⟨#[]⟩, .int .i64 0]) (results_cell_row Tryd.results26 _ _ (W.heap.size + 1) 29 _ (0, 0) _ rfl ((((HR2.out.set_ 0 _).set_ 1 _).set_ 2 _).set_ 3 _) Tryd.underlying29 rfl (by kernel_rfl)) rfl ⟨?_, ?_⟩
      · rw [HE.out.1, HE.out.2.1, HE.out.2.2.1, HE.out.2.2.2]
      · exact (((HB2.out.setCell (p := ⟨W.heap.size + 1, 0, none⟩) (by simp) _).setCell (p := ⟨W.heap.size + 1, 1, none⟩) (by simp) _).setCell (p := ⟨W.heap.size + 1, 2, none⟩) (by simp) _).setCell (p := ⟨W.heap.size + 1, 3, none⟩) (by simp) _
end Go.Proofs.YtnedihiagaepjaaDoor
