/- Contracts: l03Size, l03Nodes, l03Ok, ValidExpr, ExprNodes of the model. No condition but that the tree is not too large. -/
import Derived.Test.YtjmiobmfphkdeaaDoorExShape
namespace Go.Proofs.YtjmiobmfphkdeaaDoor
open Go Go.RowKit

/-- What l03Size answers: the number of nodes, or a number above sixty that is none too large. -/
def SizeE (x : Ex) (s : Int) : Prop := s ≤ (exCnt x : Int) ∧ 1 ≤ s ∧ (s ≤ 60 → s = (exCnt x : Int))
/-- The contract of l03Size at each tree of a slice. -/
def SizeAt (d : Nat) : Prop := ∀ (g o : Nat) (x : Ex) (A : Option Addr) (n c : Nat) (W : World), g < W.heap.size → ExAt W g o x A n c → ExV W 0 W.heap.size d x A n → exCnt x ≤ 2000000 →
  Calls Tryd.prog 21 #[.pointer (some ⟨g, o, none⟩)] W fun e w' => ∃ s, e = .returned (.int .i64 s) ∧ Hid (SizeE x s) ∧ W = w'
def NodesAt (d : Nat) : Prop := ∀ (g o : Nat) (x : Ex) (A : Option Addr) (n c : Nat) (W : World), g < W.heap.size → ExAt W g o x A n c → ExV W 0 W.heap.size d x A n →
  Calls Tryd.prog 26 #[.pointer (some ⟨g, o, none⟩)] W fun e w' => e = .returned (.bool (tt (exAll x))) ∧ W = w'

/-- A loop's sum: k Kids are counted, or more than sixty nodes are. -/
def SumE (ks : List Ex) (k : Nat) (s : Int) : Prop := s ≤ 1 + (cntK ks k : Int) ∧ 1 ≤ s ∧ (s ≤ 60 → s = 1 + (cntK ks k : Int))

set_option maxHeartbeats 2000000 in
set_option maxRecDepth 100000 in
theorem l03Size_all : ∀ d, SizeAt d := by
  intro d
  induction d with
  | zero =>
    intro g o x A n c W hg hx hv hc
    obtain ⟨k, m, t, ks⟩ := x
    obtain ⟨h1, h2⟩ := hv.2
    change ks = [] at h1
    subst h1 h2
    have x3 : W.cell? ⟨g, o + 3, none⟩ = some (.slice A 0 c) := hx.2.2.2
    have HE : Hid (SizeE (.node k m t []) 1) := by
      have e : exCnt (.node k m t []) = 1 := by rw [exCnt, exCnts]
      show _ ∧ _
      rw [e]
      exact ⟨by omega, by omega, fun _ => rfl⟩
    clear hx hv hc
    go_enter Tryd.func21, Tryd.ntmps21
    go_wp2_with fail
    go_loopw [3, 4] (fun q i wr => i = .int .i64 0 ∧ q = .int .i64 1 ∧ W = wr) (fun _ _ _ => 0)
    case atStart => exact ⟨rfl, rfl, rfl⟩
    case round =>
      obtain ⟨rfl, rfl, rfl⟩ := hrel
      go_wp2_with fail
      go_ret
      exact ⟨_, rfl, HE, rfl⟩
  | succ d ih =>
    intro g o x A n c W hg hx hv hc
    obtain ⟨k, m, t, ks⟩ := x
    have x3 : W.cell? ⟨g, o + 3, none⟩ = some (.slice A n c) := hx.2.2.2
    have HD := Lib.hid (show ExD W 0 W.heap.size (d + 1) A n ks from hv.2)
    have HIH := Lib.hid ih
    have hn := HD.out.2.1
    have HN := Lib.hid HD.out.1
    have HC : Hid (1 + cntK ks n ≤ 2000000) := by
      rw [exCnt, exCnts_eq, HN.out] at hc
      exact hc
    have HF : Hid (∀ s, SumE ks n s → SizeE (.node k m t ks) s) := by
      intro s hs
      show _ ∧ _
      rw [exCnt, exCnts_eq, HN.out]
      obtain ⟨h1, h2, h3⟩ := hs
      exact ⟨by omega, h2, fun h => by have := h3 h; omega⟩
    have HBIG : Hid (∀ k' s, k' ≤ n → 60 < s → SumE ks k' s → SizeE (.node k m t ks) s) := by
      intro k' s hk hs h
      have hm := cntK_mono (xs := ks) hk
      show _ ∧ _
      rw [exCnt, exCnts_eq, HN.out]
      exact ⟨by have := h.1; omega, h.2.1, fun h => by omega⟩
    unfold maxLen at hn
    clear hx hv hc ih
    go_enter Tryd.func21, Tryd.ntmps21
    go_wp2_with fail
    go_loopw [3, 4] (fun q i wr => ∃ (k' : Nat) (s : Int), k' ≤ n ∧ i = .int .i64 k' ∧ q = .int .i64 s ∧ 1 ≤ s ∧ s ≤ 2000000 ∧ Hid (SumE ks k' s) ∧ W = wr) (fun _ i _ => n - (intOf i).toNat)
    case atStart => exact ⟨0, 1, Nat.zero_le _, rfl, rfl, by omega, by omega, Lib.hid ⟨by simp [cntK], by omega, fun _ => by simp [cntK]⟩, rfl⟩
    case round =>
      obtain ⟨k', s, hk, rfl, rfl, hs0, hs1, HS, rfl⟩ := hrel
      by_cases hlt : k' < n
      · by_cases h60 : s ≤ 60
        · obtain ⟨b, off, y, A1, n1, c1, rfl, _, hgb, hy, _, hyc, hys, hyk⟩ := HD.out.at_ hlt
          have HY := Lib.hid hy
          have b0 : (0 : Int) ≤ (k' : Int) := by omega
          have b1 : (k' : Int) < (n : Int) := by omega
          have hcy : 1 + cntK ks (k' + 1) ≤ 2000000 := by have := cntK_mono (xs := ks) (show k' + 1 ≤ n by omega); have := HC.out; omega
          have HNX := Lib.hid (cntK_next hy)
          have hcy2 : exCnt y ≤ 2000000 := by have := HNX.out; omega
          have HQ := Lib.hid (HIH.out b (off + k' * 4) y A1 n1 c1 W hgb hyc ⟨hys, hyk⟩ hcy2)
          have HCY := Lib.hid hcy
          have HS60 := Lib.hid h60
          clear hy hyc hys hyk hgb hcy hcy2
          go_wp2_with (go_at_call 21; refine Calls.mono HQ.out ?_; rintro e w1 ⟨s1, rfl, h1, rfl⟩; have HSN : Hid (SumE ks (k' + 1) (s + s1)) := (by have a := h1.out; have b := HS.out; have c := HNX.out; have d := HS60.out; obtain ⟨a1, a2, a3⟩ := a; obtain ⟨b1', b2', b3'⟩ := b; exact ⟨by omega, by omega, fun h => by have := b3' d; have := a3 (by omega); omega⟩); have t1 : 1 ≤ s1 := h1.out.2.1; have t2 : s1 ≤ 2000000 := (by have a := h1.out.1; have b := HNX.out; have c := HCY.out; omega); have t3 : s + s1 ≤ 2000000 := (by have a := HSN.out.1; have c := HCY.out; omega); clear h1)
          go_roundw
          case rel => exact ⟨k' + 1, s + s1, by omega, by go_num, rfl, by omega, t3, HSN, by trivial⟩
          case measure => simp [intOf]; omega
        · have HE := Lib.hid (HBIG.out k' s hk (by omega) HS.out)
          go_wp2_with fail
          go_ret
          exact ⟨_, rfl, HE, rfl⟩
      · have hkn : k' = n := by omega
        have HE : Hid (SizeE (.node k m t ks) s) := HF.out s (by rw [← hkn]; exact HS.out)
        clear hkn
        go_wp2_with fail
        go_ret
        exact ⟨_, rfl, HE, rfl⟩

set_option maxHeartbeats 2000000 in
set_option maxRecDepth 100000 in
theorem l03Nodes_all : ∀ d, NodesAt d := by
  intro d
  induction d with
  | zero =>
    intro g o x A n c W hg hx hv
    obtain ⟨k, m, t, ks⟩ := x
    have ht : t.size ≤ maxLen := hv.1
    have hd : ExD W 0 W.heap.size 0 A n ks := hv.2
    have HQ := Lib.hid (l03Shape_any g o k m t ks A n c 0 W ht hx hd)
    obtain ⟨h1, h2⟩ := hd
    subst h1 h2
    have x3 : W.cell? ⟨g, o + 3, none⟩ = some (.slice A 0 c) := hx.2.2.2
    obtain ⟨V, hV⟩ : ∃ V, (Ex.node k m t []).proper = V := ⟨_, rfl⟩
    have HV := Lib.hid hV
    have HE : Hid (tt (exAll (.node k m t [])) = V) := by
      show _ = _
      rw [← hV, Bool.eq_iff_iff, tt_iff, exAll, exAlls]
      simp
    rw [HE.out]
    clear hV hx hv ht
    cases V
    · go_enter Tryd.func26, Tryd.ntmps26
      go_wp2_with (go_at_call 30; refine Calls.mono HQ.out ?_; rintro e w1 ⟨rfl, rfl⟩; rw [HV.out])
      go_ret
      exact ⟨rfl, rfl⟩
    · go_enter Tryd.func26, Tryd.ntmps26
      go_wp2_with (go_at_call 30; refine Calls.mono HQ.out ?_; rintro e w1 ⟨rfl, rfl⟩; rw [HV.out])
      go_loopw [3] (fun i wr => i = .int .i64 0 ∧ W = wr) (fun _ _ => 0)
      case atStart => exact ⟨rfl, rfl⟩
      case round =>
        obtain ⟨rfl, rfl⟩ := hrel
        go_wp2_with fail
        go_ret
        exact ⟨rfl, rfl⟩
  | succ d ih =>
    intro g o x A n c W hg hx hv
    obtain ⟨k, m, t, ks⟩ := x
    have ht : t.size ≤ maxLen := hv.1
    have hd : ExD W 0 W.heap.size (d + 1) A n ks := hv.2
    have HQ := Lib.hid (l03Shape_any g o k m t ks A n c (d + 1) W ht hx hd)
    have x3 : W.cell? ⟨g, o + 3, none⟩ = some (.slice A n c) := hx.2.2.2
    have HD := Lib.hid hd
    have HIH := Lib.hid ih
    have hn := hd.2.1
    have HN := Lib.hid hd.1
    unfold maxLen at hn
    obtain ⟨V, hV⟩ : ∃ V, (Ex.node k m t ks).proper = V := ⟨_, rfl⟩
    have HV := Lib.hid hV
    obtain ⟨P, hP⟩ : ∃ P, tt (exAll (.node k m t ks)) = P := ⟨_, rfl⟩
    have HP := Lib.hid hP
    rw [hP]
    clear hV hx hv ht hd ih hP
    have HPI : Hid (P = true ↔ V = true ∧ ∀ (j : Nat) (y : Ex), ks[j]? = some y → exAll y) := by
      show _ ↔ _
      rw [← HP.out, tt_iff, exAll, HV.out, exAlls_iff]
    cases V
    · have HF : Hid (P = false) := by
        cases P
        · exact Lib.hid rfl
        · exact absurd (HPI.out.1 rfl).1 (by simp)
      go_enter Tryd.func26, Tryd.ntmps26
      go_wp2_with (go_at_call 30; refine Calls.mono HQ.out ?_; rintro e w1 ⟨rfl, rfl⟩; rw [HV.out])
      go_ret
      exact ⟨by rw [HF.out]; rfl, rfl⟩
    · go_enter Tryd.func26, Tryd.ntmps26
      go_wp2_with (go_at_call 30; refine Calls.mono HQ.out ?_; rintro e w1 ⟨rfl, rfl⟩; rw [HV.out])
      go_loopw [3] (fun i wr => ∃ k' : Nat, k' ≤ n ∧ i = .int .i64 k' ∧ Hid (∀ (j : Nat) (y : Ex), j < k' → ks[j]? = some y → exAll y) ∧ W = wr) (fun i _ => n - (intOf i).toNat)
      case atStart => exact ⟨0, Nat.zero_le _, rfl, Lib.hid (fun j y hj => absurd hj (by omega)), rfl⟩
      case round =>
        obtain ⟨k', hk, rfl, HS, rfl⟩ := hrel
        by_cases hlt : k' < n
        · obtain ⟨b, off, y, A1, n1, c1, rfl, _, hgb, hy, _, hyc, hys, hyk⟩ := HD.out.at_ hlt
          have HY := Lib.hid hy
          have b0 : (0 : Int) ≤ (k' : Int) := by omega
          have b1 : (k' : Int) < (n : Int) := by omega
          have HR := Lib.hid (HIH.out b (off + k' * 4) y A1 n1 c1 W hgb hyc ⟨hys, hyk⟩)
          obtain ⟨F, hF⟩ : ∃ F, tt (exAll y) = F := ⟨_, rfl⟩
          have HF := Lib.hid hF
          clear hy hyc hys hyk hgb hF
          cases F
          · have HFF : Hid (P = false) := by
              cases P
              · exact Lib.hid rfl
              · exact absurd ((HPI.out.1 rfl).2 k' y HY.out) (of_tt_false HF.out)
            go_wp2_with (go_at_call 26; refine Calls.mono HR.out ?_; rintro e w1 ⟨rfl, rfl⟩; rw [HF.out])
            go_ret
            exact ⟨by rw [HFF.out]; rfl, rfl⟩
          · have HSN : Hid (∀ (j : Nat) (y : Ex), j < k' + 1 → ks[j]? = some y → exAll y) := by
              intro j z hj hz
              by_cases e : j = k'
              · rw [e, HY.out, Option.some.injEq] at hz
                rw [← hz]
                exact of_tt HF.out
              · exact HS.out j z (by omega) hz
            go_wp2_with (go_at_call 26; refine Calls.mono HR.out ?_; rintro e w1 ⟨rfl, rfl⟩; rw [HF.out])
            go_roundw
            case rel => exact ⟨k' + 1, by omega, by go_num, HSN, by trivial⟩
            case measure => simp [intOf]; omega
        · have HTT : Hid (P = true) := HPI.out.2 ⟨by trivial, fun j y hy => HS.out j y (by have := (List.getElem?_eq_some_iff.1 hy).1; have := HN.out; omega) hy⟩
          go_wp2_with fail
          go_ret
          exact ⟨by rw [HTT.out]; rfl, rfl⟩
end Go.Proofs.YtjmiobmfphkdeaaDoor
