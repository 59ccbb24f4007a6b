/- Contract: l11Names. No condition. -/
import Derived.Test.YtjeiiljdhnmofaaDoorDefNames
namespace Go.Proofs.YtjeiiljdhnmofaaDoor
open Go Go.RowKit Go.Sort

theorem leaf_kids {m : Int} {t : ByteArray} {ks : List Pt} (h : ptAll (.node 24 m t ks)) : ks = [] := by
  have h1 := ((ptAll_eq _).1 h).1
  simp only [Pt.proper, Pt.kids, Pt.k, Bool.and_eq_true, beq_iff_eq] at h1
  have h2 := h1.2.1
  have e : kidsK 24 = 0 := by decide
  rw [e] at h2
  exact List.eq_nil_of_length_eq_zero (by omega)

set_option maxHeartbeats 4000000 in
set_option maxRecDepth 100000 in
theorem names_step (d : Nat) (x : Pt) (A : Option Addr) (n c : Nat) (v : Value) (l : List ByteArray) (B : Nat) (W : World) (ih : 0 < n → NamesAt d) (hp : ptAll x) (hl : l.length + ptCnt x ≤ 100000) (ht : x.t.size ≤ maxLen) (hd : PtD W 0 B (d + 1) A n x.kids) (hB : B ≤ W.heap.size) (ho : OwnS W B v l) :
    Calls Tryd.prog 66 #[x.ag A n c, v] W fun e w' => ∃ v', e = .returned v' ∧ OwnS w' B v' (namesC l (ptPre x)) ∧ GrowS W v w' v' := by
  obtain ⟨k, m, t, ks⟩ := x
  by_cases hk : k = 24
  · subst hk
    have hks := leaf_kids hp
    subst hks
    have e1 : namesC l (ptPre (.node 24 m t [])) = addName l (24, m, t, n) := by
      have hn : n = 0 := hd.1.symm
      rw [ptPre, ptPres, hn]
      rfl
    rw [e1]
    exact names_leaf m t A n c v l B W (by omega) hB ho
  · change PtD W 0 B (d + 1) A n ks at hd
    have HD := Lib.hid hd
    have HIH := Lib.hid ih
    have HN := Lib.hid hd.1
    have hn := hd.2.1
    have HO := Lib.hid ho
    have HBB := Lib.hid hB
    have HPA := Lib.hid ((ptAlls_iff ks).1 ((ptAll_eq _).1 hp).2)
    have HCN : Hid (l.length + 1 + pcntK ks n ≤ 100000) := by show _ ≤ _; rw [ptCnt, ptCnts_eq, hd.1] at hl; omega
    unfold maxLen at hn
    obtain ⟨X, hX⟩ : ∃ X, X = W.alloc (.cells #[.int .i64 k, .int .i64 m, .string t, .slice A n c] 29) := ⟨_, rfl⟩
    have HXE := Lib.hid hX
    have HRX : Hid (RW 29 X W.heap.size #[.int .i64 k, .int .i64 m, .string t, .slice A n c]) := by show RW _ _ _ _; rw [hX]; exact RW.new _ _ _
    have HXB : Hid (Below W.heap.size W X) := by show Below _ _ _; rw [hX]; exact below_alloc _ _
    have HVX : Hid (v.ownBlock ≠ some W.heap.size) := by
      show _ ≠ _
      intro e
      have := (ownS_lt ho e).2
      omega
    obtain ⟨S, hS⟩ : ∃ S, namesC l (ptPre (.node k m t ks)) = S := ⟨_, rfl⟩
    rw [hS]
    have HS : Hid (S = namesC l (preK ks n)) := by
      show _ = _
      rw [← hS, ptPre, ptPres_eq, HN.out, namesC, List.foldl_cons, addName, if_neg hk]
      rfl
    have dk : (k == 24) = false := by simp; exact hk
    clear hd ih hS hX ho hB hp hl
    show Calls Tryd.prog 66 #[.agg #[.int .i64 k, .int .i64 m, .string t, .slice A n c], v] W _
    go_enter Tryd.func66, Tryd.ntmps66
    go_wp2_with fail
    go_loopw [1, 6] (fun q i wr => ∃ k' : Nat, ∃ v' : Value, k' ≤ n ∧ i = .int .i64 k' ∧ v' = q ∧ Hid (OwnS wr B v' (namesC l (preK ks k'))) ∧ Hid (GrowS X v wr v')) (fun _ i _ => n - (intOf i).toNat)
    case atStart => exact ⟨0, v, Nat.zero_le _, rfl, rfl, Lib.hid (by rw [← HXE.out]; exact ownS_keep HO.out HXB.out), Lib.hid (by rw [← HXE.out]; exact .of_below v (Below.refl _ _))⟩
    case round =>
      obtain ⟨k', v', hk', rfl, hvq, HOW, HG⟩ := hrel
      subst hvq
      have r3 : wr.cell? ⟨W.heap.size, 3, none⟩ = some (.slice A n c) := (HG.out.row HRX.out HVX.out).cell 3
      by_cases hlt : k' < n
      · have HBW : Hid (Below B W wr) := (HXB.out.mono HBB.out).trans (HG.out.below (ownS_keep HO.out HXB.out) (Nat.le_trans HBB.out HXB.out.size))
        obtain ⟨b, off, y, A1, n1, c1, rfl, _, hgb, hy, _, ⟨q0, q1, q2, q3⟩, hys, hyk⟩ := (HD.out.below HBW.out).at_ hlt
        have HY := Lib.hid hy
        have b0 : (0 : Int) ≤ (k' : Int) := by omega
        have b1 : (k' : Int) < (n : Int) := by omega
        have HI := Lib.hid (HIH.out (by omega) y A1 n1 c1 v' (namesC l (preK ks k')) B wr (HPA.out k' y hy) (by have h1 := namesC_len (preK ks k') l; have h2 := len_preK ks k'; have h3 := pcntK_next hy; have h4 := pcntK_mono (xs := ks) (show k' + 1 ≤ n by omega); have h5 := HCN.out; omega) hys hyk (Nat.le_trans HBB.out (Nat.le_trans HXB.out.size HG.out.size)) HOW.out)
        obtain ⟨yk, yn, yt, yks⟩ := y
        change wr.cell? ⟨b, off + k' * 4, none⟩ = some (.int .i64 yk) at q0
        change wr.cell? ⟨b, off + k' * 4 + 1, none⟩ = some (.int .i64 yn) at q1
        change wr.cell? ⟨b, off + k' * 4 + 2, none⟩ = some (.string yt) at q2
        clear hy hys hyk hgb
        go_wp2_with (go_at_call 66; refine Calls.mono HI.out ?_; rintro e w3 ⟨v3, rfl, ho3, hg3⟩; have HO3 := Lib.hid ho3; have HG3 := Lib.hid (HG.out.trans hg3); clear ho3 hg3)
        go_roundw
        case rel => exact ⟨k' + 1, v3, by omega, by go_num, rfl, by show OwnS _ _ _ _; rw [preK_next HY.out, namesC_app]; exact HO3.out, HG3⟩
        case measure => simp [intOf]; omega
      · have hkn : k' = n := by omega
        have HT : Hid (S = namesC l (preK ks k')) := by rw [hkn]; exact HS
        clear hkn
        go_wp2_with fail
        go_ret
        exact ⟨v', rfl, by rw [HT.out]; exact HOW.out, (GrowS.of_below v HXB.out).trans HG.out⟩

theorem l11Names_all : ∀ d, NamesAt d
  | 0 => fun x A n c v l B W hp hl ht hd hB ho => names_step 0 x A n c v l B W (fun h => absurd h (by have := hd.2; omega)) hp hl ht hd.deeper hB ho
  | d + 1 => fun x A n c v l B W hp hl ht hd hB ho => names_step d x A n c v l B W (fun _ => l11Names_all d) hp hl ht hd hB ho

end Go.Proofs.YtjeiiljdhnmofaaDoor
