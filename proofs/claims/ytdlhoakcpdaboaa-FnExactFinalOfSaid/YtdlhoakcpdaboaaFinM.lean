/- Contract: FinalOf of the program. Condition: a bound on the list. -/
import Derived.Test.YtdlhoakcpdaboaaFinS
import Derived.Maps.OwnSet
import Derived.StringKeys
namespace Go.Proofs.Ytdlhoakcpdaboaa
open Go Go.RowKit Go.Maps Go.Sort

theorem findIdx_map {α : Type} (f : α → List UInt8) (t : List UInt8) : ∀ xs : List α, xs.findIdx? (fun a => f a == t) = (xs.map f).findIdx? (· == t)
  | [] => rfl
  | x :: xs => by
    rw [List.map_cons, List.findIdx?_cons, List.findIdx?_cons, findIdx_map f t xs]
theorem idxAs_set {out : List As} {j : Nat} {x y : As} (hy : out[j]? = some y) (hn : (y.name_.toList == x.name_.toList) = true) (nm : ByteArray) : idxAs (out.set j x) nm = idxAs out nm := by
  unfold idxAs
  rw [findIdx_map (fun a : As => a.name_.toList), findIdx_map (fun a : As => a.name_.toList), List.map_set]
  congr 1
  have e : y.name_.toList = x.name_.toList := by simpa using hn
  refine List.ext_getElem? fun i => ?_
  by_cases h : i = j
  · subst h
    have hi : i < out.length := (List.getElem?_eq_some_iff.1 hy).1
    rw [List.getElem?_set_self (by rw [List.length_map]; exact hi), List.getElem?_map, hy]
    exact congrArg some e.symm
  · rw [List.getElem?_set_ne (fun e => h e.symm)]
theorem idxAs_snoc (out : List As) (x : As) (nm : ByteArray) : idxAs (out ++ [x]) nm = match idxAs out nm with | some i => some i | none => if x.name_.toList == nm.toList then some out.length else none := by
  unfold idxAs
  rw [List.findIdx?_append, List.findIdx?_singleton]
  cases out.findIdx? (fun a => a.name_.toList == nm.toList) with
  | some i => rfl
  | none =>
    cases h : (x.name_.toList == nm.toList) <;> simp
theorem idxAs_lt {out : List As} {nm : ByteArray} {j : Nat} (h : idxAs out nm = some j) : j < out.length ∧ ∃ y, out[j]? = some y ∧ (y.name_.toList == nm.toList) = true ∧ ∀ (i : Nat) (a : As), i < j → out[i]? = some a → (a.name_.toList == nm.toList) = false := by
  unfold idxAs at h
  rw [List.findIdx?_eq_some_iff_getElem] at h
  obtain ⟨h1, h2, h3⟩ := h
  refine ⟨h1, out[j], List.getElem?_eq_getElem h1, h2, fun i a hi ha => ?_⟩
  have := h3 i hi
  rw [(List.getElem?_eq_some_iff.1 ha).2] at this
  simpa using this
theorem idxAs_no {out : List As} {nm : ByteArray} (h : idxAs out nm = none) : ∀ (i : Nat) (a : As), out[i]? = some a → (a.name_.toList == nm.toList) = false := by
  unfold idxAs at h
  rw [List.findIdx?_eq_none_iff] at h
  exact fun i a ha => h a (List.mem_of_getElem? ha)

abbrev keyN (nm : ByteArray) : Lit := .string nm.data.toList
theorem keyN_inj {a b : ByteArray} : keyN a = keyN b ↔ (a.toList == b.toList) = true := by
  rw [Lib.toList_data, Lib.toList_data]
  simp [keyN]
theorem keyN_ok (a : ByteArray) : WideAt.IsKeyLit (keyN a) := by first | trivial | simp [keyN, WideAt.IsKeyLit]
/-- Block m is a map: each name with its place. -/
def NmM (w : World) (m k : Nat) (out : List As) : Prop :=
  ∃ D : DataW Unit, w.ownsMap Try.prog 9 (plainElem Try.prog 3) m k D ∧ ∀ nm : ByteArray, (idxAs out nm = none → has D (keyN nm) = false) ∧ (∀ j, idxAs out nm = some j → has D (keyN nm) = true ∧ D.atKey (keyN nm) (.lit (.int .i64 0)) = .lit (.int .i64 (j : Int)))
theorem NmM.made (w : World) : NmM (w.alloc (.map #[] 0)) w.heap.size 0 [] := ⟨_, World.ownsMap_made w _ _ _, fun nm => ⟨fun _ => rfl, fun j h => by simp [idxAs] at h⟩⟩
theorem NmM.kept {w w' : World} {m k : Nat} {out : List As} {row : Option Nat} (h : NmM w m k out) (hg : w.grownBy w' row) (hne : some m ≠ row) : NmM w' m k out := by
  obtain ⟨D, h1, h2⟩ := h
  exact ⟨D, h1.kept hg hne, h2⟩
theorem NmM.lt {w : World} {m k : Nat} {out : List As} (h : NmM w m k out) : m < w.heap.size := by
  obtain ⟨D, h1, h2⟩ := h
  exact h1.lt
theorem str_law : Keyed Try.prog 9 := string_keyed Try.underlying9
theorem zeroI (w : World) : (zeroValue 3).run Try.prog w = .ok (.int .i64 0) w := by kernel_rfl
theorem NmM.look {w : World} {m k : Nat} {out : List As} (h : NmM w m k out) {nm : ByteArray} (hs : nm.size ≤ maxLen) : ∃ c : Int, (Instr.lookup 61 (.map (some m)) (.string nm) true).run Try.prog w = .ok (.tuple #[.int .i64 c, .bool (idxAs out nm).isSome]) w ∧ ∀ j, idxAs out nm = some j → c = (j : Int) := by
  obtain ⟨D, hown, hD⟩ := h
  obtain ⟨v, ps, hrun, hv⟩ := hown.look_ok (t := 61) (e := 3) str_law Try.underlying61 (zeroI w) (zd := .lit (.int .i64 0)) (zp := []) (plainElem_int Try.underlying3 (by decide)) (WideMaps.keyOf_string_mk Try.underlying9 hs)
  obtain ⟨c, rfl, hc, _⟩ := plainElem_int_inv Try.underlying3 hv
  refine ⟨c, ?_, fun j hj => ?_⟩
  · cases e : idxAs out nm with
    | none => rw [(hD nm).1 e] at hrun; exact hrun
    | some j => rw [((hD nm).2 j e).1] at hrun; exact hrun
  · have h1 := ((hD nm).2 j hj).2
    have h2 := congrArg Prod.fst hc
    rw [h1] at h2
    simp only [DataW.lit.injEq, Lit.int.injEq, true_and] at h2
    exact h2.symm

theorem NmM.store {w : World} {m k : Nat} {out : List As} (x : As) (h : NmM w m k out) (hno : idxAs out x.name_ = none) (hs : x.name_.size ≤ maxLen) (hk : k < maxLen) (hl : out.length ≤ 1048576) :
    ∃ w', (Instr.mapUpdate 61 (.map (some m)) (.string x.name_) (.int .i64 (out.length : Int))).run Try.prog w = .ok () w' ∧ NmM w' m (k + 1) (out ++ [x]) ∧ w.grownBy w' (some m) := by
  obtain ⟨D, hown, hD⟩ := h
  obtain ⟨w', hrun, hown', hg⟩ := hown.update (t := 61) (e := 3) str_law Try.underlying61 hk (WideMaps.keyOf_string_mk Try.underlying9 hs) (plainElem_int (a := (out.length : Int)) Try.underlying3 (WalkArith.wf_i64 (by omega)))
  refine ⟨w', hrun, ⟨_, hown', fun nm => ?_⟩, hg⟩
  have hM := hown.isMap
  rw [idxAs_snoc]
  cases hz : (x.name_.toList == nm.toList) with
  | true =>
    have e : keyN x.name_ = keyN nm := keyN_inj.2 hz
    have e2 : idxAs out nm = none := by
      have : x.name_.toList = nm.toList := by simpa using hz
      unfold idxAs at hno ⊢
      rw [← this]
      exact hno
    rw [e2]
    dsimp only
    rw [if_pos rfl]
    refine ⟨fun h => (by cases h), fun j hj => ?_⟩
    obtain rfl : out.length = j := by simpa using hj
    rw [← e]
    exact ⟨has_put_same hM (keyN_ok _) _, atKey_put_same hM (keyN_ok _) _ _⟩
  | false =>
    have e : keyN nm ≠ keyN x.name_ := fun h => by rw [keyN_inj.1 h.symm] at hz; cases hz
    cases e2 : idxAs out nm with
    | none =>
      dsimp only
      rw [if_neg (by simp)]
      exact ⟨fun _ => by rw [has_put_other e]; exact (hD nm).1 e2, fun j hj => (by cases hj)⟩
    | some i =>
      dsimp only
      refine ⟨fun h => (by cases h), fun j hj => ?_⟩
      have := (hD nm).2 j (by rw [e2]; exact hj)
      rw [has_put_other e, atKey_put_other e]
      exact this
/-- 'places[x.Name] = len(final)' at the operation. -/
theorem wpList_nm_store {w : World} {ops : Array Oper} {rest : List Oper} {op : Oper} {a : Act} {Q : Exit → Act → World → Prop} (hg : op.guard = none) (mm x v : Operand) (hop : op.op = Op.mapUpdate 61 mm x v)
    (m k n : Nat) (out : List As) (y : As) (nm : ByteArray) (h : NmM w m k out) (hno : idxAs out y.name_ = none) (hs : y.name_.size ≤ maxLen) (hk : k < maxLen) (hl : out.length ≤ 1048576) (hn : out.length = n) (hnm : y.name_ = nm)
    (hm : a.eval mm = .map (some m)) (hx : a.eval x = .string nm) (hv : a.eval v = .int .i64 (n : Int))
    (hK : ∀ w', NmM w' m (k + 1) (out ++ [y]) → w.grownBy w' (some m) → wpList Try.prog ops Q rest (a.put op.dst undef) w') : wpList Try.prog ops Q (op :: rest) a w := by
  refine wpList_plain hg fun K' hK' => ?_
  obtain ⟨w', hrun, r1, r2⟩ := h.store y hno hs hk hl
  subst hn hnm
  unfold Oper.wp
  simp [execOp, hop, hm, hx, hv, hrun, Result.andThen]
  exact hK' _ _ (hK w' r1 r2)
theorem ownAs_other {w w' : World} {B : Nat} {v : Value} {ys : List As} {m : Nat} (h : OwnAs w B v ys) (hg : w.grownBy w' (some m)) (hm : m < B) : OwnAs w' B v ys :=
  h.kept hg (by
    rcases h.2 with ⟨rfl, _⟩ | ⟨g, cap, cur, rfl, hgb, _⟩
    · simp [Value.ownBlock]
    · simp only [Value.ownBlock]
      exact Or.inr fun e => by
        have := Option.some.inj e
        omega)
theorem NmM.cells {b m k : Nat} {out : List As} (hp : b ≠ m) : ∀ {vs : List Value} {w : World} {o : Nat}, NmM w m k out → NmM (w.setCells b o vs) m k out
  | [], _, _, h => h
  | v :: r, w, o, h => NmM.cells hp (vs := r) (by
    obtain ⟨D, h1, h2⟩ := h
    exact ⟨D, h1.setCell (a := ⟨b, o, none⟩) (fun e => hp e.symm) v, h2⟩)
theorem NmM.set {w : World} {m k j : Nat} {out : List As} {x y : As} (h : NmM w m k out) (hy : out[j]? = some y) (hn : (y.name_.toList == x.name_.toList) = true) : NmM w m (k + 1) (out.set j x) := by
  obtain ⟨D, h1, h2⟩ := h
  exact ⟨D, h1.mono (Nat.le_succ _), fun nm => by rw [idxAs_set hy hn]; exact h2 nm⟩
/-- The state of the loop: the map in block W.heap.size, the row behind it. -/
def FinSt (W : World) (k : Nat) (v : Value) (out : List As) (w : World) : Prop := OwnAs w (W.heap.size + 1) v out ∧ NmM w W.heap.size k out ∧ Below W.heap.size W w
theorem FinSt.alloc {W w : World} {k : Nat} {v : Value} {out : List As} (h : FinSt W k v out w) (o : Obj) : FinSt W k v out (w.alloc o) :=
  ⟨ownAs_keep h.1 (below_alloc _ _), h.2.1.kept (World.grownBy_alloc w o none) (by simp), h.2.2.alloc h.2.2.size _⟩
theorem FinSt.look_some {W w : World} {k j : Nat} {v : Value} {out : List As} {nm : ByteArray} (h : FinSt W k v out w) (hs : nm.size ≤ maxLen) (hix : idxAs out nm = some j) : ∀ o, (Instr.lookup 61 (.map (some W.heap.size)) (.string nm) true).run Try.prog (w.alloc o) = .ok (.tuple #[.int .i64 (j : Int), .bool true]) (w.alloc o) := fun o => by
  obtain ⟨c, h1, h2⟩ := (h.alloc o).2.1.look hs
  rw [hix, h2 j hix] at h1
  exact h1
theorem FinSt.look_none {W w : World} {k : Nat} {v : Value} {out : List As} {nm : ByteArray} (h : FinSt W k v out w) (hs : nm.size ≤ maxLen) (hix : idxAs out nm = none) (o : Obj) : ∃ c : Int, (Instr.lookup 61 (.map (some W.heap.size)) (.string nm) true).run Try.prog (w.alloc o) = .ok (.tuple #[.int .i64 c, .bool false]) (w.alloc o) := by
  obtain ⟨c, h1, _⟩ := (h.alloc o).2.1.look hs
  rw [hix] at h1
  exact ⟨c, h1⟩
theorem ownAs_vn {w : World} {B n c : Nat} {A : Option Addr} {ys : List As} (h : OwnAs w B (.slice A n c) ys) (hn : ys.length = n) : OwnAs w B (.slice A ys.length c) ys := by
  subst hn
  exact h
theorem box_kept {w w3 : World} {cs : Array Value} {T : TypeId} {m : Nat} (h : (w.alloc (.cells cs T)).grownBy w3 (some m)) (hm : m < w.heap.size) : RW T w3 w.heap.size cs :=
  (h.block w.heap.size (by simp) (fun e => by have := Option.some.inj e; omega)).trans (RW.new w cs T)
theorem FinSt.set {W w : World} {k m j g c : Nat} {out : List As} {x y : As} (h : FinSt W k (.slice (some ⟨g, 0, none⟩) m c) out w) (hm : out.length = m) (hy : out[j]? = some y) (hn : (y.name_.toList == x.name_.toList) = true) (hg : W.heap.size + 1 ≤ g) : FinSt W (k + 1) (.slice (some ⟨g, 0, none⟩) m c) (out.set j x) (w.setCells g (j * 4) x.vs) := by
  have hj : j < out.length := (List.getElem?_eq_some_iff.1 hy).1
  subst hm
  exact ⟨by have := ownAs_set (j := j) x h.1 hj; unfold OwnAs at this ⊢; rw [List.length_set] at this ⊢; exact this, NmM.cells (fun e => by omega) (h.2.1.set hy hn), h.2.2.trans (below_cells (by omega) _ _ _)⟩

set_option maxHeartbeats 4000000 in
set_option maxRecDepth 100000 in
theorem impl_FinalOf_any (A : Option Addr) (n c : Nat) (xs : List As) (W : World) (ha : AsI W W.heap.size A n xs) (hn : n ≤ 1048576) :
    Calls Try.prog 22 #[.slice A n c] W (RetAs W (finT xs)) := by
  obtain ⟨i0, hi0, hz0, hz1, hz2⟩ := info_parts asInfo
  have HI := Lib.hid (And.intro hi0 (And.intro hz0 (And.intro hz1 hz2)))
  have HA := Lib.hid ha
  have HLN := Lib.hid ha.1
  have hmm := @run_makeMap Try.prog
  clear hi0 hz0 hz1 hz2 ha
  go_enter Try.func22, Try.ntmps22
  go_wp2_with fail
  go_loopw [3, 12] (fun v q wr => ∃ (k : Nat), k ≤ n ∧ q = .int .i64 k ∧ Hid (FinSt W k v (finK xs k) wr)) (fun _ q _ => n - (intOf q).toNat)
  case atStart => exact ⟨0, Nat.zero_le _, rfl, World.ownsRow_nil _ _ _ _, NmM.made W, below_alloc _ _⟩
  case round =>
    obtain ⟨k, hk, rfl, HST⟩ := hrel
    by_cases hlt : k < n
    · obtain ⟨b, off, x, rfl, hg, hx, hat, hsz⟩ := (HA.out.below HST.out.2.2).at_ hlt
      have HX := Lib.hid hx
      have HG : Hid (b < W.heap.size) := hg
      have HNX := Lib.hid (finK_next hx)
      have hl0 := finK_len xs k
      obtain ⟨m, hm⟩ : ∃ m, (finK xs k).length = m := ⟨_, rfl⟩
      have HM := Lib.hid hm
      have hm2 : m ≤ 1048576 := by omega
      have HM2 := Lib.hid hm2
      generalize finK xs k = out at HST HNX HM
      obtain ⟨xn, xt, xb, xz⟩ := x
      change Hid (finK xs (k + 1) = finS out ⟨xn, xt, xb, xz⟩) at HNX
      have HSN : Hid (xn.size ≤ maxLen) := hsz.1
      obtain ⟨x0, x1, x2, x3⟩ := hat
      dsimp only at x0 x1 x2 x3
      obtain ⟨A1, c1, hv, _⟩ := ownAs_row HST.out.1
      subst hv
      rw [HM.out] at HST ⊢
      have HST1 := Lib.hid (fun o => HST.out.alloc o)
      have HWS := Lib.hid HST.out.2.2.size
      have b0 : (0 : Int) ≤ (k : Int) := by omega
      have b1 : (k : Int) < (n : Int) := by omega
      have HKM : Hid (k < maxLen) := by show k < maxLen; unfold maxLen; omega
      clear hx hsz hg hm hl0
      cases hix : idxAs out xn with
      | some j =>
        obtain ⟨hj, y, hy, hyn, hno⟩ := idxAs_lt hix
        have HIX := Lib.hid hix
        have HY := Lib.hid hy
        have HYN := Lib.hid hyn
        have HF := Lib.hid (finS_some (x := ⟨xn, xt, xb, xz⟩) hno hy hyn).1
        have hlook : ∀ o, (Instr.lookup 61 (.map (some W.heap.size)) (.string xn) true).run Try.prog (World.alloc _ o) = .ok (.tuple #[.int .i64 (j : Int), .bool true]) (World.alloc _ o) := fun o => by
          obtain ⟨c, h1, h2⟩ := (HST1.out o).2.1.look HSN.out
          rw [HIX.out, h2 j HIX.out] at h1
          exact h1
        have hlook := HST.out.look_some HSN.out hix
        obtain ⟨g, c2, hv2, hg1, hg2, hcells⟩ := ownAs_some (ownAs_vn (HST1.out (.cells #[.string xn, .string xt, .bool xb, .int .i64 xz] 52)).1 HM.out) (by omega)
        simp only [Value.slice.injEq, true_and] at hv2
        obtain ⟨rfl, _⟩ := hv2
        have HSET := Lib.hid (FinSt.set (x := ⟨xn, xt, xb, xz⟩) (HST1.out (.cells #[.string xn, .string xt, .bool xb, .int .i64 xz] 52)) HM.out HY.out HYN.out hg1)
        obtain ⟨yn, yt, yb, yz⟩ := y
        have q0 := hcells j 0 _ (.string yn) hy rfl
        have q1 := hcells j 1 _ (.string yt) hy rfl
        have q2 := hcells j 2 _ (.bool yb) hy rfl
        have q3 := hcells j 3 _ (.int .i64 yz) hy rfl
        rw [Nat.add_zero] at q0
        obtain ⟨q0, f0⟩ := q0
        obtain ⟨q1, f1⟩ := q1
        obtain ⟨q2, f2⟩ := q2
        obtain ⟨q3, f3⟩ := q3
        have b2 : (0 : Int) ≤ (j : Int) := by omega
        have b3 : (j : Int) < (m : Int) := by have := HM.out; omega
        clear hcells hy hyn hno hg1 hj hix
        go_wp2_with fail
        go_roundw
        case rel =>
          refine ⟨k + 1, by omega, by go_num, Lib.hid ?_⟩
          rw [HNX.out, HF.out]
          exact HSET.out
        case measure => simp [intOf]; omega
      | none =>
        have HIX := Lib.hid hix
        have HF := Lib.hid (finS_none (x := ⟨xn, xt, xb, xz⟩) (idxAs_no hix)).1
        obtain ⟨c9, hlook⟩ := HST.out.look_none HSN.out hix (.cells #[.string xn, .string xt, .bool xb, .int .i64 xz] 52)
        have HBB := Lib.hid HST.out.2.1.lt
        clear hix
        go_wp2_with (first
          | (at_mapUpdate; refine wpList_nm_store rfl (.tmp 28) (.tmp 30) (.tmp 32) rfl W.heap.size k m out ⟨xn, xt, xb, xz⟩ xn (HST1.out _).2.1 HIX.out HSN.out HKM.out (by have := HM.out; omega) HM.out rfl rfl rfl rfl ?_; intro w3 hm3 hg3; have HN3 := Lib.hid hm3; have HBX := Lib.hid (box_kept hg3 HBB.out); have z0 : World.cell? w3 _ = some (.string xn) := HBX.out.cell 0; have z1 : World.cell? w3 _ = some (.string xt) := HBX.out.cell 1; have z2 : World.cell? w3 _ = some (.bool xb) := HBX.out.cell 2; have z3 : World.cell? w3 _ = some (.int .i64 xz) := HBX.out.cell 3; have HW3 := Lib.hid ((HST1.out _).2.2.grown hg3 (HST1.out _).2.2.size (fun q hq => by cases hq; exact Nat.le_refl _)); have HS3 := Lib.hid (Nat.le_trans HBB.out (Nat.le_trans (Nat.le_of_lt (lt_alloc _ _)) hg3.size)); have HO3 := Lib.hid (ownAs_nv (ownAs_other (ownAs_vn (HST1.out _).1 HM.out) hg3 (Nat.lt_succ_self _)) HM.out); clear hm3 hg3)
          | (at_builtin; have tk := HO3; clear tk; refine wpList_append_own_at _ rfl _ _ 38 rfl (W.heap.size + 1) 52 i0 (.agg #[.string ⟨#[]⟩, .string ⟨#[]⟩, .bool false, .int .i64 0]) 4 48 Try.underlying38 HI.out.1 HI.out.2.1 HI.out.2.2.1 HI.out.2.2.2 rfl (by decide) _ m _ rfl (HO3.out.alloc _) ⟨_, 0, none⟩ 1 1 [.string xn, .string xt, .bool xb, .int .i64 xz] rfl rfl (cell_four_new _ _ _ _ _ _) (fun x hx => by simp at hx; rcases hx with rfl | rfl | rfl | rfl <;> rfl) (by unfold maxLen; omega) (by omega) (by have := HS3.out; simp; omega) ?_; intro v4 w4 hown4 hgr4 _ hat4))
        go_roundw
        case rel =>
          refine ⟨k + 1, by omega, by go_num, Lib.hid ?_⟩
          rw [HNX.out, HF.out]
          exact ⟨ownAs_snoc ⟨xn, xt, xb, xz⟩ hown4 HM.out, (HN3.out.kept (World.grownBy_alloc _ _ none) (by simp)).kept hgr4 (fun e => by have := ownAs_ge HO3.out _ e.symm; omega), (HW3.out.alloc HW3.out.size _).grown hgr4 (by have := HW3.out.size; simp; omega) (fun q hq => by have := ownAs_ge HO3.out _ hq; omega)⟩
        case measure => simp [intOf]; omega
    · have hkn : k = n := by omega
      have HN : Hid (finK xs k = finT xs) := by show _ = _; unfold finT; rw [HLN.out, hkn]
      obtain ⟨A1, c1, hv, hr⟩ := ownAs_row HST.out.1
      have HR := Lib.hid hr
      have HW := Lib.hid HST.out.2.2
      subst hv
      rw [HN.out] at HR ⊢
      clear hkn hr
      go_wp2_with fail
      go_ret
      exact ⟨A1, c1, rfl, Lib.hid ⟨fun hn => (by obtain ⟨g, cs, e, h1, h2⟩ := HR.out hn; exact ⟨g, cs, e, by omega, h2⟩), HW.out⟩⟩
end Go.Proofs.Ytdlhoakcpdaboaa
