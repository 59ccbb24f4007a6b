/- Plain: the joined text of statements, read again, gives those statements, numbered. No condition. (For FnLines.) -/
import Derived.Test.YtfobjedobojbnabDoorRoundGood
import Derived.Test.YtfobjedobojbnabDoorJoinPlain
namespace Go.Proofs.YtfobjedobojbnabDoor
open Go

theorem nl_size : (⟨#[10]⟩ : ByteArray).size = 1 := rfl
theorem bt_nl : PlainAid.bt ⟨#[10]⟩ 0 = 10 := rfl
theorem good_no10 {p : ByteArray} (h : Good p) {j : Nat} (hj : j < p.size) : ¬ PlainAid.bt p j = 10 := fun e => by
  have := h j hj
  rw [e, prnB_no (.inl (by decide))] at this
  cases this
theorem prnB_more {c : Int} (h : prnB false c = true) : prnB true c = true := by
  simp only [prnB] at h ⊢
  simp at h
  simp [h]
theorem joinT_prefix (xs : List Lin) (k : Nat) : ∀ d, ∃ r, joinT xs (k + d) = joinT xs k ++ r
  | 0 => ⟨⟨#[]⟩, by
    rw [Nat.add_zero]
    apply WideShapes.bytes_inj
    rw [ByteArray.data_append, Array.toList_append, List.append_nil]⟩
  | d + 1 => by
    obtain ⟨r, hr⟩ := joinT_prefix xs k d
    exact ⟨_, by rw [← Nat.add_assoc, joinT, hr, ByteArray.append_assoc]⟩
theorem extract_mid (a b c : ByteArray) : (a ++ b ++ c).extract a.size (a.size + b.size) = b := by
  apply WideShapes.bytes_inj
  rw [Lib.extract_data, ByteArray.data_append, ByteArray.data_append, Array.toList_append, Array.toList_append, List.append_assoc, Nat.add_sub_cancel_left, Lib.size_eq a, Lib.size_eq b, List.drop_left, List.take_left]
theorem cut_join (xs : List Lin) (hg : ∀ y ∈ xs, Good y.t) : ∀ (d k : Nat), k + d = xs.length →
    cutE (joinT xs xs.length) 10 (joinT xs k).size (joinT xs k).size (joinT xs xs.length).size = (xs.drop k).map (fun x => x.t) ++ [⟨#[]⟩]
  | 0, k, h => by
    obtain rfl : k = xs.length := by omega
    rw [cutE_end (Nat.lt_irrefl _), List.drop_length]
    have : (joinT xs xs.length).extract (joinT xs xs.length).size (joinT xs xs.length).size = ⟨#[]⟩ := by
      apply WideShapes.bytes_inj
      rw [Lib.extract_data, Nat.sub_self, List.take_zero]
    rw [this]
    rfl
  | d + 1, k, h => by
    have hk : k < xs.length := by omega
    have hx : xs[k]? = some xs[k] := List.getElem?_eq_getElem hk
    have hxm := List.getElem_mem hk
    have ih := cut_join xs hg d (k + 1) (by omega)
    obtain ⟨r, hr⟩ := joinT_prefix xs (k + 1) d
    rw [show k + 1 + d = xs.length by omega, joinT_next hx] at hr
    rw [joinT_next hx] at ih
    rw [List.drop_eq_getElem_cons hk]
    have hgx := hg _ hxm
    generalize xs[k] = x at hr ih hgx
    generalize joinT xs xs.length = t at hr ih ⊢
    generalize joinT xs k = p at hr ih ⊢
    have hsz : t.size = p.size + (x.t.size + 1) + r.size := by rw [hr, ByteArray.size_append, ByteArray.size_append, ByteArray.size_append, nl_size]
    have hb : ∀ j, j < x.t.size → PlainAid.bt t (p.size + j) = PlainAid.bt x.t j := fun j hj => by
      rw [hr, bt_join, if_pos (by rw [ByteArray.size_append, ByteArray.size_append]; omega), bt_join, if_neg (by omega), Nat.add_sub_cancel_left, bt_join, if_pos hj]
    have h10 : PlainAid.bt t (p.size + x.t.size) = 10 := by
      rw [hr, bt_join, if_pos (by rw [ByteArray.size_append, ByteArray.size_append, nl_size]; omega), bt_join, if_neg (by omega), Nat.add_sub_cancel_left, bt_join, if_neg (by omega), Nat.sub_self]
      rfl
    rw [cutE_skip x.t.size p.size (fun j h1 h2 => ⟨by omega, fun e => by
      have := hb (j - p.size) (by omega)
      rw [show p.size + (j - p.size) = j by omega, e] at this
      exact good_no10 hgx (show j - p.size < x.t.size by omega) this.symm⟩), cutE_cut (by omega) h10]
    have hex : t.extract p.size (p.size + x.t.size) = x.t := by
      rw [hr, show p ++ (x.t ++ ⟨#[10]⟩) ++ r = p ++ x.t ++ (⟨#[10]⟩ ++ r) by simp only [ByteArray.append_assoc]]
      exact extract_mid _ _ _
    rw [hex]
    rw [ByteArray.size_append, ByteArray.size_append, nl_size, ← Nat.add_assoc] at ih
    rw [ih]
    rfl
theorem join_last (xs : List Lin) (h0 : 0 < xs.length) : 0 < (joinT xs xs.length).size ∧ PlainAid.bt (joinT xs xs.length) ((joinT xs xs.length).size - 1) = 10 := by
  obtain ⟨n, hn⟩ : ∃ n, xs.length = n + 1 := ⟨xs.length - 1, by omega⟩
  rw [hn]
  have hx : xs[n]? = some xs[n] := List.getElem?_eq_getElem (by omega)
  rw [joinT_next hx]
  generalize xs[n] = x
  generalize joinT xs n = p
  have hs : (p ++ (x.t ++ ⟨#[10]⟩)).size = p.size + (x.t.size + 1) := by rw [ByteArray.size_append, ByteArray.size_append, nl_size]
  refine ⟨by omega, ?_⟩
  rw [hs, bt_join, if_neg (by omega), bt_join, if_neg (by omega), show p.size + (x.t.size + 1) - 1 - p.size - x.t.size = 0 by omega]
  rfl
theorem lines_join (xs : List Lin) (hg : ∀ y ∈ xs, Good y.t) : linesT (joinT xs xs.length) = xs.map fun x => x.t := by
  rcases Nat.eq_zero_or_pos xs.length with h0 | h0
  · rw [List.eq_nil_of_length_eq_zero h0]
    rfl
  · obtain ⟨h1, h2⟩ := join_last xs h0
    have h3 := linesOf_nl h1 h2
    have h4 := cut_join xs hg xs.length 0 (by omega)
    rw [List.drop_zero, show (joinT xs 0).size = 0 from rfl, h3] at h4
    unfold linesT
    rw [if_neg (by omega)]
    exact List.append_cancel_right h4
theorem join_bytes (xs : List Lin) (hg : ∀ y ∈ xs, Good y.t) : ∀ k, k ≤ xs.length → ∀ j, j < (joinT xs k).size → prnB true (PlainAid.bt (joinT xs k) j) = true
  | 0, _, j, hj => absurd hj (Nat.not_lt_zero _)
  | k + 1, hk, j, hj => by
    have hx : xs[k]? = some xs[k] := List.getElem?_eq_getElem (by omega)
    have hgx := hg _ (List.getElem_mem (show k < xs.length by omega))
    rw [joinT_next hx] at hj ⊢
    generalize xs[k] = x at hj hgx ⊢
    rw [ByteArray.size_append, ByteArray.size_append, nl_size] at hj
    rw [bt_join]
    split
    · rename_i h
      exact join_bytes xs hg k (by omega) j h
    · rw [bt_join]
      split
      · rename_i h
        exact prnB_more (hgx _ h)
      · rw [show j - (joinT xs k).size - x.t.size = 0 by omega]
        rfl
theorem source_join (xs : List Lin) (hg : ∀ y ∈ xs, Good y.t) (hn : xs.length ≤ 120) (hs : (joinT xs xs.length).size ≤ 4000) : sourceB (joinT xs xs.length) = true := by
  unfold sourceB
  have h1 : lineCount (joinT xs xs.length) = (linesT (joinT xs xs.length)).length := by
    unfold lineCount linesT
    split <;> rfl
  rw [h1, lines_join xs hg, List.length_map, allB_true (join_bytes xs hg xs.length (Nat.le_refl _))]
  simp [hs, hn]
/-- Lines with their numbers from k + 1 on. -/
def numL : Nat → List ByteArray → List Lin
  | _, [] => []
  | k, t :: ts => ⟨((k + 1 : Nat) : Int), t⟩ :: numL (k + 1) ts
theorem numL_at : ∀ (k : Nat) (ts : List ByteArray) (j : Nat) (t : ByteArray), ts[j]? = some t → (numL k ts)[j]? = some ⟨((k + j + 1 : Nat) : Int), t⟩
  | k, [], j, t, h => by simp at h
  | k, x :: ts, 0, t, h => by simp at h; subst h; rfl
  | k, x :: ts, j + 1, t, h => by
    have := numL_at (k + 1) ts j t (by simpa using h)
    show (numL (k + 1) ts)[j]? = _
    rw [this, show k + 1 + j + 1 = k + (j + 1) + 1 by omega]
theorem numL_length : ∀ (k : Nat) (ts : List ByteArray), (numL k ts).length = ts.length
  | k, [] => rfl
  | k, t :: ts => by rw [numL, List.length_cons, List.length_cons, numL_length]
theorem numL_text : ∀ (k : Nat) (ts : List ByteArray), ∀ y ∈ numL k ts, y.t ∈ ts
  | k, [], y, h => by simp [numL] at h
  | k, t :: ts, y, h => by
    rcases List.mem_cons.1 h with rfl | h
    · exact List.mem_cons_self
    · exact List.mem_cons_of_mem _ (numL_text (k + 1) ts y h)
theorem comb_new : ∀ (ts : List ByteArray) (k : Nat) (acc : List Lin), (∀ t ∈ ts, skipB t = false ∧ contB t = false) → combT ts k acc = (acc ++ numL k ts, 0)
  | [], k, acc, _ => by simp [combT, numL]
  | t :: ts, k, acc, h => by
    obtain ⟨h1, h2⟩ := h t (by simp)
    rw [combT, if_neg (by rw [h1]; decide), if_neg (by rw [h2]; decide), comb_new ts (k + 1) _ (fun x hx => h x (List.mem_cons_of_mem _ hx)), List.append_assoc]
    rfl
theorem log_same : ∀ (xs acc : List Lin), (∀ x ∈ xs, blankB x.t = false ∧ stm x.t 0 0 0 = [x.t]) → logT xs acc = acc ++ xs
  | [], acc, _ => by simp [logT]
  | x :: xs, acc, h => by
    obtain ⟨h1, h2⟩ := h x (by simp)
    have e : stmL x acc = acc ++ [x] := by
      unfold stmL
      rw [h2]
      simp [h1]
    rw [logT, e, log_same xs _ (fun y hy => h y (List.mem_cons_of_mem _ hy)), List.append_assoc]
    rfl
/-- The joined text of statements of which none begins with '*' or '+', read again. -/
theorem logG_again (xs : List Lin) (hok : ∀ y ∈ xs, StmOk y.t) (hb : ∀ y ∈ xs, ¬ PlainAid.bt y.t 0 = 42 ∧ ¬ PlainAid.bt y.t 0 = 43) (hn : xs.length ≤ 120) (hs : (joinT xs xs.length).size ≤ 4000) :
    logG (joinT xs xs.length) = (numL 0 (xs.map fun x => x.t), 0, 0) := by
  have hg : ∀ y ∈ xs, Good y.t := fun y hy => (hok y hy).1
  have hv := source_join xs hg hn hs
  have hc : combT (linesT (joinT xs xs.length)) 0 [] = (numL 0 (xs.map fun x => x.t), 0) := by
    rw [lines_join xs hg, comb_new _ 0 [] ?_, List.nil_append]
    intro t ht
    obtain ⟨y, hy, rfl⟩ := List.mem_map.1 ht
    have h1 := (hok y hy).2.1
    obtain ⟨h2, h3⟩ := hb y hy
    unfold skipB contB
    simp [h1, h2, h3]
  unfold logG
  rw [if_neg (by simp [hv]), hc, if_pos rfl]
  rw [log_same _ [] ?_, List.nil_append]
  intro x hx
  obtain ⟨y, hy, e⟩ := List.mem_map.1 (numL_text 0 _ x hx)
  rw [← e]
  exact (hok y hy).2
end Go.Proofs.YtfobjedobojbnabDoor
