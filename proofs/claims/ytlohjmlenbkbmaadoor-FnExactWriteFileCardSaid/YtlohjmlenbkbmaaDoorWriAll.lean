/- For every console and string and string, FnExactWriteFile returns true and leaves what it is handed as it was. Condition: the listed package-level variables hold what the program's text lays (tied by the given card). -/
import Derived.Test.YtlohjmlenbkbmaaDoorWriAll4
import Derived.Deep.RegionHeld3
import Derived.Deep.AppendLies
import Derived.Deep.RegionLaw
import Derived.Deep.CutBlock
import Derived.Test.YtlohjmlenbkbmaaDoorWriAll2
import Derived.Test.YtlohjmlenbkbmaaDoorWriAll3
import Derived.Test.YtlohjmlenbkbmaaDoorCards
import Derived.Stop.LaidErr
import Derived.Test.YtlohjmlenbkbmaaDoorTie
import Derived.WalkKit
import Derived.ProofKit
import Derived.OpenShut
import Derived.LaidMore
import Derived.OpenVars
import Derived.Deep.DeepHandedRow
import Derived.Deep.CondSized
namespace Go.Proofs.YtlohjmlenbkbmaaDoor
open Go Go.RowKit Go.Sort

set_option maxHeartbeats 4000000 in
set_option maxRecDepth 100000 in
theorem useWr_any (x : Cn) (K : Int) (X : Cn) (s : ByteArray) (ms : List Int) (cap : Array Value) (gn gm ga bm cm m g : Nat) (y y' : Fl) (l : CnLay) (zs : List (Fl × FlLay)) (W w : World) (hB : Below W.heap.size W w) (hg : W.heap.size ≤ g) (hR : RW 29 w g #[.slice l.A0 l.n0 l.c0, .int .i64 x.at_, .slice l.A2 l.n2 l.c2, .slice l.A3 l.n3 l.c3, .slice l.A4 l.n4 l.c4]) (hO : OwnCn W.heap.size w x l zs)
    (hc : Capt w gn gm ga s bm cm ms (.func (.func 52) #[] cap)) (hl : CaptLt w.heap.size gn gm ga bm) (hn : l.n3 ≤ 1000) (hms : ms.length ≤ 1000) (hp : PlaceP Fl.name_ x.files_ s m) (hy : x.files_[m]? = some y) (hys : (y.name_.toList == s.toList) = true) (hct : ms.contains y.mode_ = true) (hX : K = 0 → X = { x with files_ := x.files_.set m y' }) (hyn : y'.name_.size ≤ maxLen)
    (hact : ∀ (w1 : World) (f : Nat) (A1 : Option Addr) (n1 c1 : Nat), Below w.heap.size w w1 → w.heap.size ≤ f → RW 71 w1 f #[.slice A1 n1 c1, .int .i64 y.at_, .string y.name_, .int .i64 y.mode_] → OwnS w1 W.heap.size A1 n1 c1 y.lines_ → Calls Tryd.prog 52 (#[.pointer (some ⟨f, 0, none⟩)] ++ cap) w1 (ActRes K y' W.heap.size f A1 w1)) :
    Calls Tryd.prog 75 (#[.pointer (some ⟨g, 0, none⟩)] ++ #[.pointer (some ⟨gn, 0, none⟩), .pointer (some ⟨gm, 0, none⟩), .pointer (some ⟨ga, 0, none⟩)]) w (ChRes K X W g w) := by
  have HP := Lib.hid (fun (w1 : World) (hb : Below w.heap.size w w1) => placeFl_any l.A3 l.n3 l.c3 m x.files_ s true w1 (hO.toV.2.2.1.go hb) hn hp (.inl ⟨y, hy, hys⟩))
  have HF := Lib.hid (fun (w1 : World) => files_any x l w1)
  have HR := Lib.hid hR
  have HBW := Lib.hid hB
  have HOO := Lib.hid hO
  have HCC := Lib.hid hc
  have HLT := Lib.hid hl
  have HMM := Lib.hid hms
  have HCT := Lib.hid hct
  have HY := Lib.hid hy
  have H52 := Lib.hid hact
  have HXX := Lib.hid hX
  have HYN := Lib.hid hyn
  have h0 := hc.1
  obtain ⟨g3, ly, cur, hA3, hz, hm, hrF, hsz, hcell⟩ := hO.file hy
  have HZ := Lib.hid hz
  have HRF := Lib.hid hrF
  have HSZ := Lib.hid hsz
  have HEL := Lib.hid hcell
  obtain ⟨x0, x1, x2, x3, x4⟩ := x
  obtain ⟨A0, n0, c0, h0', A2, n2, c2, h2', A3, n3, c3, h3', A4, n4, c4, h4'⟩ := l
  obtain ⟨y0, y1, y2, y3⟩ := y
  obtain ⟨B1, k1, d1, e1⟩ := ly
  dsimp only at hA3 hm
  subst hA3
  have b0 : (0 : Int) ≤ (m : Int) := by omega
  have b1 : (m : Int) < (n3 : Int) := by omega
  have hbd : n3 ≤ 1000 := hn
  clear hO hR hB hc hp hy hys hct hl hms hact hX hyn hn hz hrF hsz hcell
  show Calls Tryd.prog 75 #[.pointer (some ⟨g, 0, none⟩), .pointer (some ⟨gn, 0, none⟩), .pointer (some ⟨gm, 0, none⟩), .pointer (some ⟨ga, 0, none⟩)] w _
  go_enter Tryd.func75, Tryd.ntmps75
  go_wp2_with fail
  obtain ⟨w0, hw0⟩ : ∃ w0, w = w0 := ⟨_, rfl⟩
  have z0 := cell_regrown (HR.out.cell 0)
  have z1 := cell_regrown (HR.out.cell 1)
  have z2 := cell_regrown (HR.out.cell 2)
  have z3 := cell_regrown (HR.out.cell 3)
  have z4 := cell_regrown (HR.out.cell 4)
  have zn := cell_regrown h0
  have cF : ∀ d os', Calls Tryd.prog 58 #[.agg #[.slice A0 n0 c0, .int .i64 x1, .slice A2 n2 c2, .slice (some ⟨g3, 0, none⟩) n3 c3, .slice A4 n4 c4]] (grow (redrawn w d) os') (fun e w'' => e = .returned (.slice (some ⟨g3, 0, none⟩) n3 c3) ∧ ∃ q : Regrown, w'' = grow (redrawn w q.d) q.os) := fun d os' => Calls.regrown_of (HF.out _)
  have cP : ∀ d os', Calls Tryd.prog 76 #[.slice (some ⟨g3, 0, none⟩) n3 c3, .string s] (grow (redrawn w d) os') (fun e w'' => e = .returned (.tuple #[.int .i64 m, .bool true]) ∧ ∃ q : Regrown, w'' = grow (redrawn w q.d) q.os) := fun d os' => Calls.regrown_of (HP.out _ (below_regrown w d os'))
  clear hw0 h0
  refine wp_region_quiet_below (by kernel_rfl) (by kernel_rfl) ?_
  repeat (first | go_big_quiet_step (first | with_reducible exact cF _ _ | with_reducible exact cP _ _) | quiet_step (first | with_reducible exact cF _ _ | with_reducible exact cP _ _))
  refine wpQuiet_nil ?_
  intro w4 hw'
  obtain ⟨⟨dq, osq⟩, hw''⟩ := hw'
  have HB4 : Hid (Below w.heap.size w w4) := by show Below _ _ _; rw [hw'']; exact below_regrown w dq osq
  clear hw'' z0 z1 z2 z3 z4 zn cF cP
  have HR4 := Lib.hid (HR.out.below HB4.out HR.out.lt)
  have HF4 := Lib.hid (HRF.out.below HB4.out HRF.out.lt)
  have HO4 := Lib.hid (HOO.out.keep HB4.out)
  have HC4 := Lib.hid (HCC.out.below HB4.out HLT.out)
  have HL4 := Lib.hid (HLT.out.mono HB4.out.size)
  have p3 := HR4.out.cell 3
  have q0 : w4.cell? ⟨g3, m * 4, none⟩ = some (.string y0) := (HF4.out.cell _).trans (HEL.out 0 _ rfl)
  have q1 : w4.cell? ⟨g3, m * 4 + 1, none⟩ = some (.slice B1 k1 d1) := (HF4.out.cell _).trans (HEL.out 1 _ rfl)
  have q2 : w4.cell? ⟨g3, m * 4 + 2, none⟩ = some (.int .i64 y2) := (HF4.out.cell _).trans (HEL.out 2 _ rfl)
  have q3 : w4.cell? ⟨g3, m * 4 + 3, none⟩ = some (.int .i64 y3) := (HF4.out.cell _).trans (HEL.out 3 _ rfl)
  have am : ∀ o, (w4.alloc o).cell? ⟨gm, 0, none⟩ = some (.slice (some ⟨bm, 0, none⟩) ms.length cm) := fun o => (HC4.out.below (below_alloc w4 o) HL4.out).2.1
  have HMS : Hid (∀ o (j : Nat) (x : Int), ms[j]? = some x → (w4.alloc o).cell? ⟨bm, 0 + j, none⟩ = some (.int .i64 x)) := fun o => (HC4.out.below (below_alloc w4 o) HL4.out).2.2.2
  have ag : ∀ o o', ((w4.alloc o).alloc o').cell? ⟨ga, 0, none⟩ = some (.func (.func 52) #[] cap) := fun o o' => ((HC4.out.below (below_alloc w4 o) HL4.out).below (below_alloc _ o') (HL4.out.mono (Nat.le_of_lt (lt_alloc _ _)))).2.2.1
  have HT := Lib.hid (fun X (e : X = (w4.alloc (.cells #[.string y0, .slice B1 k1 d1, .int .i64 y2, .int .i64 y3] 50)).alloc (.cells #[.slice B1 k1 d1, .int .i64 y3, .string y0, .int .i64 y2] 71)) => two_cells w4 50 71 #[.string y0, .slice B1 k1 d1, .int .i64 y2, .int .i64 y3] #[.slice B1 k1 d1, .int .i64 y3, .string y0, .int .i64 y2] X e)
  go_wp2_with (first
    | (go_at_call 77; refine (contains64_any bm 0 ms.length cm ms y2 _ rfl HMM.out (HMS.out _)).mono ?_; rintro e w5 ⟨rfl, rfl⟩; rw [HCT.out])
    | (go_at_call 52; obtain ⟨_, g1, g2⟩ := HT.out _ rfl; have hel := HO4.out.o3.el m _ HZ.out; refine (H52.out _ (w4.heap.size + 1) B1 k1 d1 (HB4.out.trans (g2.mono HB4.out.size)) (Nat.le_succ_of_le HB4.out.size) g1 (hel.1.keep g2)).mono ?_; rintro e w6 ⟨rfl, h⟩; obtain ⟨A1', n1', c1', hn1', hr, ho, ht, ha⟩ := h.out; have HN6 := Lib.hid hn1'; have HR6 := Lib.hid hr; have HO6 := Lib.hid ho; have HT6 := Lib.hid ht; have HA6 := Lib.hid ha; have HG2 := Lib.hid g2; clear h g1 g2 hel hn1' hr ho ht ha))
  have HX2 := Lib.hid HG2.out.size
  have HGL : Hid (g < w4.heap.size) := HR4.out.lt
  have HG6 : Hid (RW 29 w6 g #[.slice A0 n0 c0, .int .i64 x1, .slice A2 n2 c2, .slice (some ⟨g3, 0, none⟩) n3 c3, .slice A4 n4 c4]) := by
    refine (HT6.out.2.2.2.2 g (by have := HGL.out; simp; omega) fun h => ?_).trans (HR4.out.below HG2.out HR4.out.lt)
    rcases h with h | h
    · have := HGL.out; omega
    · obtain ⟨_, cs, hr⟩ := (HO4.out.o3.el m _ HZ.out).1.row h
      exact absurd (RW.same hr HR4.out).1 (by decide)
  have HF6 : Hid (RW 50 w6 g3 cur) := by
    have hlt := HF4.out.lt
    refine (HT6.out.2.2.2.2 g3 (by simp; omega) fun h => ?_).trans (HF4.out.below HG2.out HF4.out.lt)
    rcases h with h | h
    · omega
    · obtain ⟨_, cs, hr⟩ := (HO4.out.o3.el m _ HZ.out).1.row h
      exact absurd (RW.same hr HF4.out).1 (by decide)
  have u0 : w6.cell? ⟨g3, m * 4, none⟩ = some (.string y0) := (HF6.out.cell _).trans (HEL.out 0 _ rfl)
  have u1 : w6.cell? ⟨g3, m * 4 + 1, none⟩ = some (.slice B1 k1 d1) := (HF6.out.cell _).trans (HEL.out 1 _ rfl)
  have u2 : w6.cell? ⟨g3, m * 4 + 2, none⟩ = some (.int .i64 y2) := (HF6.out.cell _).trans (HEL.out 2 _ rfl)
  have u3 : w6.cell? ⟨g3, m * 4 + 3, none⟩ = some (.int .i64 y3) := (HF6.out.cell _).trans (HEL.out 3 _ rfl)
  have v0 := HF6.out.frozen (m * 4)
  have v1 := HF6.out.frozen (m * 4 + 1)
  have v2 := HF6.out.frozen (m * 4 + 2)
  have v3 := HF6.out.frozen (m * 4 + 3)
  have F6 : Hid (w6.cell? ⟨g, 3, none⟩ = some (.slice (some ⟨g3, 0, none⟩) n3 c3) ∧ w6.cell? ⟨w4.heap.size + 1, 0, none⟩ = some (.slice A1' n1' c1') ∧ w6.cell? ⟨w4.heap.size + 1, 1, none⟩ = some (.int .i64 y'.at_) ∧ w6.cell? ⟨w4.heap.size + 1, 2, none⟩ = some (.string y'.name_) ∧ w6.cell? ⟨w4.heap.size + 1, 3, none⟩ = some (.int .i64 y'.mode_)) := ⟨HG6.out.cell 3, HR6.out.cell 0, HR6.out.cell 1, HR6.out.cell 2, HR6.out.cell 3⟩
  have hgg : g ≠ g3 := fun e => by
    subst e
    exact absurd (RW.same HG6.out HF6.out).1 (by decide)
  have hfg : w4.heap.size + 1 ≠ g3 := by have := HF4.out.lt; omega
  have hG7 := rw_four HG6.out hgg (p := m * 4) (v0 := .string y'.name_) (v1 := .slice A1' n1' c1') (v2 := .int .i64 y'.mode_) (v3 := .int .i64 y'.at_)
  have hR7 := rw_four HR6.out hfg (p := m * 4) (v0 := .string y'.name_) (v1 := .slice A1' n1' c1') (v2 := .int .i64 y'.mode_) (v3 := .int .i64 y'.at_)
  have F7 := Lib.hid (And.intro (hG7.cell 3) (And.intro (hR7.cell 0) (And.intro (hR7.cell 1) (And.intro (hR7.cell 2) (hR7.cell 3)))))
  clear hG7 hR7 am ag p3 q0 q1 q2 q3
  go_region_held3 (fun w' => w'.cell? ⟨g, 3, none⟩ = some (.slice (some ⟨g3, 0, none⟩) n3 c3) ∧ w'.cell? ⟨w4.heap.size + 1, 0, none⟩ = some (.slice A1' n1' c1') ∧ w'.cell? ⟨w4.heap.size + 1, 1, none⟩ = some (.int .i64 y'.at_) ∧ w'.cell? ⟨w4.heap.size + 1, 2, none⟩ = some (.string y'.name_) ∧ w'.cell? ⟨w4.heap.size + 1, 3, none⟩ = some (.int .i64 y'.mode_))
    (first | (exact F6.out) | (exact F7.out) | go_keep) (fail)
  go_wp2_with fail
  go_ret
  refine act_end (K := K) (X := X) (W := W) (w := w) (x := ⟨x0, x1, x2, x3, x4⟩) (l := ⟨A0, n0, c0, h0', A2, n2, c2, h2', some ⟨g3, 0, none⟩, n3, c3, h3', A4, n4, c4, h4'⟩) (y' := y') HBW.out HOO.out rfl HZ.out ((Turn.of_below (HB4.out.trans (HG2.out.mono HB4.out.size))).trans' HT6.out HB4.out.size HG2.out.size) HN6.out HO6.out (fun b hb => (HA6.out b hb).imp id fun h => Nat.le_trans HB4.out.size (Nat.le_trans HG2.out.size h)) HYN.out HRF.out HG6.out hgg HXX.out
end Go.Proofs.YtlohjmlenbkbmaaDoor

namespace Go.Proofs.YtlohjmlenbkbmaaDoor
open Go Go.RowKit

set_option maxHeartbeats 2000000 in
set_option maxRecDepth 100000 in
theorem chgUfWr (x : Cn) (l : CnLay) (s : ByteArray) (ms : List Int) (act : Fl → Fl × Int) (cap : Array Value) (K : Int) (X : Cn) (gn gm ga bm cm : Nat) (w : World) (hv : CnV w w.heap.size x l) (hT : Classes w) (h0 : l.n0 ≤ 1048576) (h2 : l.n2 ≤ 1048576) (h4 : l.n4 ≤ 1048576) (h3 : l.n3 ≤ 1048576) (hF : ∀ (j : Nat) (y : Fl), x.files_[j]? = some y → y.lines_.length ≤ 1048576)
    (hc : Capt w gn gm ga s bm cm ms (.func (.func 52) #[] cap)) (hl : CaptLt w.heap.size gn gm ga bm) (hms : ms.length ≤ 1000) (hU : UseR x s ms act K X)
    (hact : ∀ (y : Fl) (w0 w1 : World) (f : Nat) (A1 : Option Addr) (n1 c1 : Nat), y ∈ x.files_ → Below w.heap.size w w1 → w.heap.size ≤ f → RW 71 w1 f #[.slice A1 n1 c1, .int .i64 y.at_, .string y.name_, .int .i64 y.mode_] → OwnS w1 w.heap.size A1 n1 c1 y.lines_ → Calls Tryd.prog 52 (#[.pointer (some ⟨f, 0, none⟩)] ++ cap) w1 (ActRes (act y).2 (act y).1 w.heap.size f A1 w1)) (hyn : ∀ y : Fl, y.name_.size ≤ maxLen → (act y).1.name_.size ≤ maxLen) :
    Calls Tryd.prog 36 #[x.ag l, .bool (isNameB s), .func (.func 75) #[] #[.pointer (some ⟨gn, 0, none⟩), .pointer (some ⟨gm, 0, none⟩), .pointer (some ⟨ga, 0, none⟩)]] w (ConR K X w) := by
  rcases hU with ⟨hno, rfl, rfl⟩ | ⟨hcb, hnm, m, hp, hU⟩
  · exact changeNo_any x l _ _ w hv hT hno
  rw [hnm]
  have hfl := files_ok hcb
  have hn3 : ∀ {w1 : World} {l' : CnLay} {zs : List (Fl × FlLay)}, OwnCn w.heap.size w1 x l' zs → l'.n3 = x.files_.length := fun {w1 l' zs} h => by rw [← h.n3, ← h.fs, List.length_map]
  have hn6 : ∀ {w1 : World} {l' : CnLay} {zs : List (Fl × FlLay)}, OwnCn w.heap.size w1 x l' zs → l'.n3 ≤ 1000 := fun {w1 l' zs} h => by have := hn3 h; have := hfl.1; omega
  rcases hU with ⟨hy, rfl, rfl⟩ | ⟨y, hy, rfl, hU⟩
  · have h := changeUse_any x l 11 zC #[.pointer (some ⟨gn, 0, none⟩), .pointer (some ⟨gm, 0, none⟩), .pointer (some ⟨ga, 0, none⟩)] w hv hT hcb h0 h2 h4 h3 hF fun w1 g l' zs hb hg hR hO => useNo_any x zC s ms _ gn gm ga bm cm m g l' zs w w1 hb hg hR hO (hc.below hb hl) (hl.mono hb.size) (hn6 hO) hp (by
      rcases Nat.lt_or_ge m x.files_.length with hm | hm
      · have e := List.getElem?_eq_getElem hm
        exact .inl ⟨_, e, bytes_ne (hy _ e)⟩
      · exact .inr ⟨by have := hp.1; have := hn3 hO; omega, rfl⟩)
    exact h
  have hyy : (y.name_.toList == y.name_.toList) = true := by simp
  rcases hU with ⟨hct, rfl, rfl⟩ | ⟨hct, hU⟩
  · exact changeUse_any x l 10 zC _ w hv hT hcb h0 h2 h4 h3 hF fun w1 g l' zs hb hg hR hO => useSt_any x zC y.name_ ms _ gn gm ga bm cm m g y l' zs w w1 hb hg hR hO (hc.below hb hl) (hl.mono hb.size) (hn6 hO) hms hp hy hyy hct
  have key : ∀ X2, ((act y).2 = 0 → X2 = { x with files_ := x.files_.set m (act y).1 }) → Calls Tryd.prog 36 #[x.ag l, .bool true, .func (.func 75) #[] #[.pointer (some ⟨gn, 0, none⟩), .pointer (some ⟨gm, 0, none⟩), .pointer (some ⟨ga, 0, none⟩)]] w (ConR (act y).2 (if (act y).2 = 0 then X2 else zC) w) := fun X2 hX2 =>
    changeUse_any x l (act y).2 X2 _ w hv hT hcb h0 h2 h4 h3 hF fun w1 g l' zs hb hg hR hO => useWr_any x (act y).2 X2 y.name_ ms cap gn gm ga bm cm m g y (act y).1 l' zs w w1 hb hg hR hO (hc.below hb hl) (hl.mono hb.size) (hn6 hO) hms hp hy hyy hct hX2 (hyn y (by
      obtain ⟨g3, ly, cur, _, hz, _⟩ := hO.file hy
      exact (hO.o3.el m _ hz).2)) fun w2 f A1 n1 c1 hb2 hf hr ho => hact y w w2 f A1 n1 c1 (List.mem_of_getElem? hy) (hb.trans (hb2.mono hb.size)) (Nat.le_trans hb.size hf) hr ho
  rcases hU with ⟨h00, rfl, rfl⟩ | ⟨h00, rfl, rfl⟩
  · have h := key _ fun _ => rfl
    rw [if_pos h00, h00] at h
    exact h
  · have h := key { x with files_ := x.files_.set m (act y).1 } fun _ => rfl
    rw [if_neg h00] at h
    exact h

set_option maxHeartbeats 4000000 in
set_option maxRecDepth 100000 in
theorem ufWr_any (x : Cn) (l : CnLay) (s : ByteArray) (ms : List Int) (act : Fl → Fl × Int) (cap : Array Value) (K : Int) (X : Cn) (bm cm : Nat) (W : World) (hv : CnV W W.heap.size x l) (hT : Classes W) (h0 : l.n0 ≤ 1048576) (h2 : l.n2 ≤ 1048576) (h4 : l.n4 ≤ 1048576) (h3 : l.n3 ≤ 1048576) (hF : ∀ (j : Nat) (y : Fl), x.files_[j]? = some y → y.lines_.length ≤ 1048576) (hs : s.size ≤ maxLen)
    (hm : ∀ (j : Nat) (v : Int), ms[j]? = some v → W.cell? ⟨bm, 0 + j, none⟩ = some (.int .i64 v)) (hbm : bm < W.heap.size) (hms : ms.length ≤ 1000) (hU : UseR x s ms act K X)
    (hact : ∀ (y : Fl) (w w1 : World) (f : Nat) (A1 : Option Addr) (n1 c1 : Nat), y ∈ x.files_ → Below W.heap.size W w → Below w.heap.size w w1 → w.heap.size ≤ f → RW 71 w1 f #[.slice A1 n1 c1, .int .i64 y.at_, .string y.name_, .int .i64 y.mode_] → OwnS w1 w.heap.size A1 n1 c1 y.lines_ → Calls Tryd.prog 52 (#[.pointer (some ⟨f, 0, none⟩)] ++ cap) w1 (ActRes (act y).2 (act y).1 w.heap.size f A1 w1)) (hyn : ∀ y : Fl, y.name_.size ≤ maxLen → (act y).1.name_.size ≤ maxLen) :
    Calls Tryd.prog 48 #[x.ag l, .string s, .slice (some ⟨bm, 0, none⟩) ms.length cm, .func (.func 52) #[] cap] W (ConR K X W) := by
  have hmf : ∀ (fn : Fn) (first cap : Array Value) (w : World), (Instr.makeFunc fn first cap).run Tryd.prog w = .ok (.func fn first cap) w := fun _ _ _ _ => rfl
  have HN := Lib.hid (fun (w : World) (hb : Below W.heap.size W w) => impl_IsName_any s w hs (classes_go hT hb))
  have HG := Lib.hid (fun (w : World) (hb : Below W.heap.size W w) (hl : W.heap.size + 5 ≤ w.heap.size) (r1 : RW 9 w (W.heap.size + 1) #[.string s]) (r2 : RW 64 w (W.heap.size + 1 + 1) #[.slice (some ⟨bm, 0, none⟩) ms.length cm]) (r3 : RW 72 w (W.heap.size + 1 + 1 + 1) #[.func (.func 52) #[] cap]) =>
    chgUfWr x l s ms act cap K X (W.heap.size + 1) (W.heap.size + 1 + 1) (W.heap.size + 1 + 1 + 1) bm cm w (hv.go hb) (classes_go hT hb) h0 h2 h4 h3 hF ⟨r1.cell 0, r2.cell 0, r3.cell 0, fun j v hj => (hb.cell (p := ⟨bm, 0 + j, none⟩) hbm).trans (hm j v hj)⟩ ⟨by omega, by omega, by omega, by omega⟩ hms hU (fun y _ w1 f A1 n1 c1 hy hb1 hf hr ho => hact y w w1 f A1 n1 c1 hy hb hb1 hf hr ho) hyn)
  obtain ⟨x0, x1, x2, x3, x4⟩ := x
  obtain ⟨A0, n0, c0, h0', A2, n2, c2, h2', A3, n3, c3, h3', A4, n4, c4, h4'⟩ := l
  have HC := Lib.hid (five_new W 29 9 64 72 29 #[.slice A0 n0 c0, .int .i64 x1, .slice A2 n2 c2, .slice A3 n3 c3, .slice A4 n4 c4] #[.string s] #[.slice (some ⟨bm, 0, none⟩) ms.length cm] #[.func (.func 52) #[] cap] #[.slice none 0 0, .int .i64 0, .slice none 0 0, .slice none 0 0, .slice none 0 0])
  obtain ⟨z, hz⟩ : ∃ z, isNameB s = z := ⟨_, rfl⟩
  have HZ := Lib.hid hz
  clear hv hT h0 h2 h4 h3 hF hs hm hms hU hact hyn hz
  show Calls Tryd.prog 48 #[.agg #[.slice A0 n0 c0, .int .i64 x1, .slice A2 n2 c2, .slice A3 n3 c3, .slice A4 n4 c4], .string s, .slice (some ⟨bm, 0, none⟩) ms.length cm, .func (.func 52) #[] cap] W _
  go_enter Tryd.func48, Tryd.ntmps48
  go_wp2_with fail
  obtain ⟨w0, hw0⟩ : ∃ w0, ((((W.alloc (.cells #[.slice A0 n0 c0, .int .i64 x1, .slice A2 n2 c2, .slice A3 n3 c3, .slice A4 n4 c4] 29)).alloc (.cells #[.string s] 9)).alloc (.cells #[.slice (some ⟨bm, 0, none⟩) ms.length cm] 64)).alloc (.cells #[.func (.func 52) #[] cap] 72)).alloc (.cells #[.slice none 0 0, .int .i64 0, .slice none 0 0, .slice none 0 0, .slice none 0 0] 29) = w0 := ⟨_, rfl⟩
  rw [hw0]
  obtain ⟨g0, g1, g2, g3, g4, g5, g6⟩ := HC.out w0 hw0.symm
  have HB0 : Hid (Below W.heap.size W w0.drew) := g5.drew
  have HS0 : Hid (W.heap.size + 5 ≤ w0.drew.heap.size) := Nat.le_of_eq g6.symm
  have HR0 := Lib.hid (rw_drew g0)
  have HR1 := Lib.hid (rw_drew g1)
  have HR2 := Lib.hid (rw_drew g2)
  have HR3 := Lib.hid (rw_drew g3)
  have HR4 := Lib.hid (rw_drew g4)
  have F0 : Hid (w0.drew.cell? ⟨W.heap.size, 0, none⟩ = some (.slice A0 n0 c0) ∧ w0.drew.cell? ⟨W.heap.size, 1, none⟩ = some (.int .i64 x1) ∧ w0.drew.cell? ⟨W.heap.size, 2, none⟩ = some (.slice A2 n2 c2) ∧ w0.drew.cell? ⟨W.heap.size, 3, none⟩ = some (.slice A3 n3 c3) ∧ w0.drew.cell? ⟨W.heap.size, 4, none⟩ = some (.slice A4 n4 c4) ∧ w0.drew.cell? ⟨W.heap.size + 1, 0, none⟩ = some (.string s)) := ⟨HR0.out.cell 0, HR0.out.cell 1, HR0.out.cell 2, HR0.out.cell 3, HR0.out.cell 4, HR1.out.cell 0⟩
  obtain ⟨XX, hXX⟩ : ∃ XX, X = XX := ⟨_, rfl⟩
  obtain ⟨z0, z1, z2, z3, z4⟩ := X
  clear hw0 HC g0 g1 g2 g3 g4 g5 g6 hXX
  have tk1 : True := trivial
  go_region_held3 (fun w' => w'.cell? ⟨W.heap.size, 0, none⟩ = some (.slice A0 n0 c0) ∧ w'.cell? ⟨W.heap.size, 1, none⟩ = some (.int .i64 x1) ∧ w'.cell? ⟨W.heap.size, 2, none⟩ = some (.slice A2 n2 c2) ∧ w'.cell? ⟨W.heap.size, 3, none⟩ = some (.slice A3 n3 c3) ∧ w'.cell? ⟨W.heap.size, 4, none⟩ = some (.slice A4 n4 c4) ∧ w'.cell? ⟨W.heap.size + 1, 0, none⟩ = some (.string s))
    (first | (with_reducible exact F0.out) | (with_reducible exact F1.out) | (with_reducible exact F2.out) | (with_reducible exact F3.out))
    ((first
      | (go_at_call 37; refine (HN.out _ HB0.out).mono ?_; rintro e w1 ⟨rfl, hb⟩; rw [HZ.out]; have HB1 := Lib.hid (HB0.out.trans (hb.mono HB0.out.size)); have HS1 : Hid (W.heap.size + 5 ≤ w1.heap.size) := Nat.le_trans HS0.out hb.size; have K0 := Lib.hid (HR0.out.below hb HR0.out.lt); have K1 := Lib.hid (HR1.out.below hb HR1.out.lt); have K2 := Lib.hid (HR2.out.below hb HR2.out.lt); have K3 := Lib.hid (HR3.out.below hb HR3.out.lt); have K4 := Lib.hid (HR4.out.below hb HR4.out.lt); have F1 : Hid (w1.cell? ⟨W.heap.size, 0, none⟩ = some (.slice A0 n0 c0) ∧ w1.cell? ⟨W.heap.size, 1, none⟩ = some (.int .i64 x1) ∧ w1.cell? ⟨W.heap.size, 2, none⟩ = some (.slice A2 n2 c2) ∧ w1.cell? ⟨W.heap.size, 3, none⟩ = some (.slice A3 n3 c3) ∧ w1.cell? ⟨W.heap.size, 4, none⟩ = some (.slice A4 n4 c4) ∧ w1.cell? ⟨W.heap.size + 1, 0, none⟩ = some (.string s)) := ⟨K0.out.cell 0, K0.out.cell 1, K0.out.cell 2, K0.out.cell 3, K0.out.cell 4, K1.out.cell 0⟩; clear hb)
      | (go_at_call 36; have hq := HG.out w1 HB1.out HS1.out K1.out K2.out K3.out; rw [HZ.out] at hq; refine hq.mono ?_; clear hq; rintro e w2 ⟨⟨A0r, n0r, c0r, hr0, A2r, n2r, c2r, hr2, A3r, n3r, c3r, hr3, A4r, n4r, c4r, hr4⟩, zs, he, h⟩; obtain rfl : e = .returned (.tuple #[.agg #[.slice A0r n0r c0r, .int .i64 z1, .slice A2r n2r c2r, .slice A3r n3r c3r, .slice A4r n4r c4r], .int .i64 K]) := he; obtain ⟨ho, hb⟩ := h.out; have HO2 := Lib.hid (ho.lower HB1.out.size); have HB2 := Lib.hid (HB1.out.trans (hb.mono HB1.out.size)); have L0 := Lib.hid (K0.out.below hb K0.out.lt); have L1 := Lib.hid (K1.out.below hb K1.out.lt); have L4 : Hid (RW 29 w2 (W.heap.size + 1 + 1 + 1 + 1) #[.slice none 0 0, .int .i64 0, .slice none 0 0, .slice none 0 0, .slice none 0 0]) := K4.out.below hb K4.out.lt; have r0 := L4.out.cell 0; have r1 := L4.out.cell 1; have r2 := L4.out.cell 2; have r3 := L4.out.cell 3; have r4 := L4.out.cell 4; have s0 := L4.out.frozen 0; have s1 := L4.out.frozen 1; have s2 := L4.out.frozen 2; have s3 := L4.out.frozen 3; have s4 := L4.out.frozen 4; have F2 : Hid (w2.cell? ⟨W.heap.size, 0, none⟩ = some (.slice A0 n0 c0) ∧ w2.cell? ⟨W.heap.size, 1, none⟩ = some (.int .i64 x1) ∧ w2.cell? ⟨W.heap.size, 2, none⟩ = some (.slice A2 n2 c2) ∧ w2.cell? ⟨W.heap.size, 3, none⟩ = some (.slice A3 n3 c3) ∧ w2.cell? ⟨W.heap.size, 4, none⟩ = some (.slice A4 n4 c4) ∧ w2.cell? ⟨W.heap.size + 1, 0, none⟩ = some (.string s)) := ⟨L0.out.cell 0, L0.out.cell 1, L0.out.cell 2, L0.out.cell 3, L0.out.cell 4, L1.out.cell 0⟩; have hM0 : RW 29 (((((w2.setCell ⟨W.heap.size + 1 + 1 + 1 + 1, 0, none⟩ (.slice A0r n0r c0r)).setCell ⟨W.heap.size + 1 + 1 + 1 + 1, 1, none⟩ (.int .i64 z1)).setCell ⟨W.heap.size + 1 + 1 + 1 + 1, 2, none⟩ (.slice A2r n2r c2r)).setCell ⟨W.heap.size + 1 + 1 + 1 + 1, 3, none⟩ (.slice A3r n3r c3r)).setCell ⟨W.heap.size + 1 + 1 + 1 + 1, 4, none⟩ (.slice A4r n4r c4r)) W.heap.size #[.slice A0 n0 c0, .int .i64 x1, .slice A2 n2 c2, .slice A3 n3 c3, .slice A4 n4 c4] := rw_five L0.out (by omega); have hM1 : RW 9 (((((w2.setCell ⟨W.heap.size + 1 + 1 + 1 + 1, 0, none⟩ (.slice A0r n0r c0r)).setCell ⟨W.heap.size + 1 + 1 + 1 + 1, 1, none⟩ (.int .i64 z1)).setCell ⟨W.heap.size + 1 + 1 + 1 + 1, 2, none⟩ (.slice A2r n2r c2r)).setCell ⟨W.heap.size + 1 + 1 + 1 + 1, 3, none⟩ (.slice A3r n3r c3r)).setCell ⟨W.heap.size + 1 + 1 + 1 + 1, 4, none⟩ (.slice A4r n4r c4r)) (W.heap.size + 1) #[.string s] := rw_five L1.out (by omega); have F3 : Hid ((((((w2.setCell ⟨W.heap.size + 1 + 1 + 1 + 1, 0, none⟩ (.slice A0r n0r c0r)).setCell ⟨W.heap.size + 1 + 1 + 1 + 1, 1, none⟩ (.int .i64 z1)).setCell ⟨W.heap.size + 1 + 1 + 1 + 1, 2, none⟩ (.slice A2r n2r c2r)).setCell ⟨W.heap.size + 1 + 1 + 1 + 1, 3, none⟩ (.slice A3r n3r c3r)).setCell ⟨W.heap.size + 1 + 1 + 1 + 1, 4, none⟩ (.slice A4r n4r c4r)).cell? ⟨W.heap.size, 0, none⟩ = some (.slice A0 n0 c0) ∧ (((((w2.setCell ⟨W.heap.size + 1 + 1 + 1 + 1, 0, none⟩ (.slice A0r n0r c0r)).setCell ⟨W.heap.size + 1 + 1 + 1 + 1, 1, none⟩ (.int .i64 z1)).setCell ⟨W.heap.size + 1 + 1 + 1 + 1, 2, none⟩ (.slice A2r n2r c2r)).setCell ⟨W.heap.size + 1 + 1 + 1 + 1, 3, none⟩ (.slice A3r n3r c3r)).setCell ⟨W.heap.size + 1 + 1 + 1 + 1, 4, none⟩ (.slice A4r n4r c4r)).cell? ⟨W.heap.size, 1, none⟩ = some (.int .i64 x1) ∧ (((((w2.setCell ⟨W.heap.size + 1 + 1 + 1 + 1, 0, none⟩ (.slice A0r n0r c0r)).setCell ⟨W.heap.size + 1 + 1 + 1 + 1, 1, none⟩ (.int .i64 z1)).setCell ⟨W.heap.size + 1 + 1 + 1 + 1, 2, none⟩ (.slice A2r n2r c2r)).setCell ⟨W.heap.size + 1 + 1 + 1 + 1, 3, none⟩ (.slice A3r n3r c3r)).setCell ⟨W.heap.size + 1 + 1 + 1 + 1, 4, none⟩ (.slice A4r n4r c4r)).cell? ⟨W.heap.size, 2, none⟩ = some (.slice A2 n2 c2) ∧ (((((w2.setCell ⟨W.heap.size + 1 + 1 + 1 + 1, 0, none⟩ (.slice A0r n0r c0r)).setCell ⟨W.heap.size + 1 + 1 + 1 + 1, 1, none⟩ (.int .i64 z1)).setCell ⟨W.heap.size + 1 + 1 + 1 + 1, 2, none⟩ (.slice A2r n2r c2r)).setCell ⟨W.heap.size + 1 + 1 + 1 + 1, 3, none⟩ (.slice A3r n3r c3r)).setCell ⟨W.heap.size + 1 + 1 + 1 + 1, 4, none⟩ (.slice A4r n4r c4r)).cell? ⟨W.heap.size, 3, none⟩ = some (.slice A3 n3 c3) ∧ (((((w2.setCell ⟨W.heap.size + 1 + 1 + 1 + 1, 0, none⟩ (.slice A0r n0r c0r)).setCell ⟨W.heap.size + 1 + 1 + 1 + 1, 1, none⟩ (.int .i64 z1)).setCell ⟨W.heap.size + 1 + 1 + 1 + 1, 2, none⟩ (.slice A2r n2r c2r)).setCell ⟨W.heap.size + 1 + 1 + 1 + 1, 3, none⟩ (.slice A3r n3r c3r)).setCell ⟨W.heap.size + 1 + 1 + 1 + 1, 4, none⟩ (.slice A4r n4r c4r)).cell? ⟨W.heap.size, 4, none⟩ = some (.slice A4 n4 c4) ∧ (((((w2.setCell ⟨W.heap.size + 1 + 1 + 1 + 1, 0, none⟩ (.slice A0r n0r c0r)).setCell ⟨W.heap.size + 1 + 1 + 1 + 1, 1, none⟩ (.int .i64 z1)).setCell ⟨W.heap.size + 1 + 1 + 1 + 1, 2, none⟩ (.slice A2r n2r c2r)).setCell ⟨W.heap.size + 1 + 1 + 1 + 1, 3, none⟩ (.slice A3r n3r c3r)).setCell ⟨W.heap.size + 1 + 1 + 1 + 1, 4, none⟩ (.slice A4r n4r c4r)).cell? ⟨W.heap.size + 1, 0, none⟩ = some (.string s)) := ⟨hM0.cell 0, hM0.cell 1, hM0.cell 2, hM0.cell 3, hM0.cell 4, hM1.cell 0⟩; clear h ho hb hM0 hM1)))
  all_goals (go_wp2_with fail)
  all_goals
    refine bodyPost_ret (v := .tuple #[.agg #[.slice A0r n0r c0r, .int .i64 z1, .slice A2r n2r c2r, .slice A3r n3r c3r, .slice A4r n4r c4r], .int .i64 K]) (results_row_tmp Tryd.results48 _ _ (W.heap.size + 1 + 1 + 1 + 1) 29 _ (0, 0) _ _ rfl rfl (sets_five L4.out) Tryd.underlying29 rfl (by kernel_rfl)) rfl ?_
    exact ⟨⟨A0r, n0r, c0r, hr0, A2r, n2r, c2r, hr2, A3r, n3r, c3r, hr3, A4r, n4r, c4r, hr4⟩, zs, rfl, Lib.hid ⟨own_five HO2.out L4.out, below_five HB2.out (by omega) _ _ _ _ _⟩⟩
end Go.Proofs.YtlohjmlenbkbmaaDoor

namespace Go.Proofs.YtlohjmlenbkbmaaDoor
open Go Go.RowKit

theorem modes_at {w : World} {b : Nat} {cs : Array Value} {ms : List Int} (h : RW 2 w b cs) (hc : cs = (ms.map fun m => Value.int .i64 m).toArray) : ∀ (j : Nat) (v : Int), ms[j]? = some v → w.cell? ⟨b, 0 + j, none⟩ = some (.int .i64 v) := fun j v hj => by
  rw [Nat.zero_add, h.cell, hc, List.getElem?_toArray, List.getElem?_map, hj]
  rfl


theorem isLine_any (s : ByteArray) (W : World) (hs : s.size ≤ 1048576) : Calls Tryd.prog 51 #[.string s] W fun e w' => e = .returned (.bool (decide (s.size ≤ 200))) ∧ w' = W := by
  obtain ⟨b, hb⟩ : ∃ b, decide (s.size ≤ 200) = b := ⟨_, rfl⟩
  have HB : Hid (decide ((s.size : Int) ≤ 200) = b) := by show _ = _; rw [← hb]; simp only [decide_eq_decide]; omega
  rw [hb]
  clear hb
  go_enter Tryd.func51, Tryd.ntmps51
  go_wp2_with fail
  go_ret
  exact ⟨by rw [← HB.out]; rfl, rfl⟩
/-- What WriteFile answers. -/
def WrR (x : Cn) (nm s : ByteArray) (K : Int) (X : Cn) : Prop := (200 < s.size ∧ K = 1 ∧ X = zC) ∨ (s.size ≤ 200 ∧ UseR x nm [2, 3] (wrF s) K X)
theorem WrR.ex (x : Cn) (nm s : ByteArray) : ∃ K X, WrR x nm s K X := by
  by_cases h : 200 < s.size
  · exact ⟨1, zC, .inl ⟨h, rfl, rfl⟩⟩
  · obtain ⟨K, X, hu⟩ := UseR.ex x nm [2, 3] (wrF s)
    exact ⟨K, X, .inr ⟨by omega, hu⟩⟩

set_option maxHeartbeats 4000000 in
set_option maxRecDepth 100000 in
theorem impl_WriteFile_any (x : Cn) (l : CnLay) (s t : ByteArray) (K : Int) (X : Cn) (W : World) (hv : CnV W W.heap.size x l) (hT : Classes W) (h0 : l.n0 ≤ 1048576) (h2 : l.n2 ≤ 1048576) (h4 : l.n4 ≤ 1048576) (h3 : l.n3 ≤ 1048576) (hF : ∀ (j : Nat) (y : Fl), x.files_[j]? = some y → y.lines_.length ≤ 1048576) (hs : s.size ≤ maxLen) (ht : t.size ≤ 1048576) (hU : WrR x s t K X) :
    Calls Tryd.prog 19 #[x.ag l, .string s, .string t] W (ConR K X W) := by
  have HL := Lib.hid (fun w : World => isLine_any t w ht)
  have hln : ∀ y ∈ x.files_, y.lines_.length ≤ 1048576 := fun y hy => by
    obtain ⟨j, hj⟩ := List.getElem?_of_mem hy
    exact hF j y hj
  have HQ := Lib.hid (fun (hu : UseR x s [2, 3] (wrF t) K X) (w : World) (bm gs : Nat) (hb : Below W.heap.size W w) (hgs : gs < w.heap.size) (hg : RW 9 w gs #[.string t]) (hr : RW 2 w bm #[.int .i64 2, .int .i64 3]) =>
    ufWr_any x l s [2, 3] (wrF t) #[.pointer (some ⟨gs, 0, none⟩)] K X bm 2 w (hv.go hb) (classes_go hT hb) h0 h2 h4 h3 hF hs (modes_at hr rfl) hr.lt (by decide) hu (fun y w0 w1 f A1 n1 c1 hy hb0 hb1 hf hr1 ho => wrAct_any y w0.heap.size f gs A1 n1 c1 t w1 hr1 ho hb1.size (by have := ho.len; have := hln y hy; omega) (by unfold maxLen; omega) ((hb1.cell (p := ⟨gs, 0, none⟩) (Nat.lt_of_lt_of_le hgs hb0.size)).trans ((hb0.cell (p := ⟨gs, 0, none⟩) hgs).trans (hg.cell 0))) (Nat.lt_of_lt_of_le hgs hb0.size) (Nat.lt_of_lt_of_le (Nat.lt_of_lt_of_le hgs hb0.size) hf)) (fun y hy => by unfold wrF; split <;> exact hy))
  obtain ⟨x0, x1, x2, x3, x4⟩ := x
  obtain ⟨A0, n0, c0, h0', A2, n2, c2, h2', A3, n3, c3, h3', A4, n4, c4, h4'⟩ := l
  have HC := Lib.hid (fun X (e : X = ((W.alloc (.cells #[.slice A0 n0 c0, .int .i64 x1, .slice A2 n2 c2, .slice A3 n3 c3, .slice A4 n4 c4] 29)).alloc (.cells #[.string t] 9)).alloc (.cells #[.slice none 0 0, .int .i64 0, .slice none 0 0, .slice none 0 0, .slice none 0 0] 29)) => three_new W 29 9 29 #[.slice A0 n0 c0, .int .i64 x1, .slice A2 n2 c2, .slice A3 n3 c3, .slice A4 n4 c4] #[.string t] #[.slice none 0 0, .int .i64 0, .slice none 0 0, .slice none 0 0, .slice none 0 0] X e)
  have hmf : ∀ (fn : Fn) (first cap : Array Value) (w : World), (Instr.makeFunc fn first cap).run Tryd.prog w = .ok (.func fn first cap) w := fun _ _ _ _ => rfl
  clear hv hT h0 h2 h4 h3 hF hs hln
  show Calls Tryd.prog 19 #[.agg #[.slice A0 n0 c0, .int .i64 x1, .slice A2 n2 c2, .slice A3 n3 c3, .slice A4 n4 c4], .string s, .string t] W _
  rcases hU with ⟨hlong, rfl, rfl⟩ | ⟨hshort, hU⟩
  · have HD : Hid (decide (t.size ≤ 200) = false) := by show _ = _; simp; omega
    clear hlong HQ
    go_enter Tryd.func19, Tryd.ntmps19
    go_wp2_with (go_at_call 51; obtain ⟨g0, g2, g1, g3, g4⟩ := HC.out _ rfl; refine (HL.out _).mono ?_; rintro e w1 ⟨rfl, hw⟩; rw [← hw] at g0 g1 g2 g3 g4; rw [HD.out]; have HB := Lib.hid g3; have HR := Lib.hid g1; have HS1 := Lib.hid g2; have HZ1 := Lib.hid g4; have HI1 := Lib.hid g0; have r0 := HR.out.cell 0; have r1 := HR.out.cell 1; have r2 := HR.out.cell 2; have r3 := HR.out.cell 3; have r4 := HR.out.cell 4; have s0 := HR.out.frozen 0; have s1 := HR.out.frozen 1; have s2 := HR.out.frozen 2; have s3 := HR.out.frozen 3; have s4 := HR.out.frozen 4; have i0 := HI1.out.cell 0; have i1 := HI1.out.cell 1; have i2 := HI1.out.cell 2; have i3 := HI1.out.cell 3; have i4 := HI1.out.cell 4; clear g0 g1 g2 g3 g4 hw)
    exact bodyPost_ret (v := .tuple #[.agg zeroC, .int .i64 1]) (results_row_tmp Tryd.results19 _ _ (W.heap.size + 2) 29 zeroC (0, 0) _ _ rfl rfl (sets_zero HR.out) Tryd.underlying29 rfl (by kernel_rfl)) rfl (ConR.zero (below_five HB.out (by omega) _ _ _ _ _))
  · have HD : Hid (decide (t.size ≤ 200) = true) := by show _ = _; simp; omega
    obtain ⟨z0, z1, z2, z3, z4⟩ := X
    have HU := Lib.hid hU
    clear hshort hU
    go_enter Tryd.func19, Tryd.ntmps19
    go_wp2_with (first
      | (go_at_call 51; obtain ⟨g0, g2, g1, g3, g4⟩ := HC.out _ rfl; refine (HL.out _).mono ?_; rintro e w1 ⟨rfl, hw⟩; rw [← hw] at g0 g1 g2 g3 g4; rw [HD.out]; have HB := Lib.hid g3; have HR := Lib.hid g1; have HS1 := Lib.hid g2; have HZ1 := Lib.hid g4; have HI1 := Lib.hid g0; have r0 := HR.out.cell 0; have r1 := HR.out.cell 1; have r2 := HR.out.cell 2; have r3 := HR.out.cell 3; have r4 := HR.out.cell 4; have s0 := HR.out.frozen 0; have s1 := HR.out.frozen 1; have s2 := HR.out.frozen 2; have s3 := HR.out.frozen 3; have s4 := HR.out.frozen 4; have i0 := HI1.out.cell 0; have i1 := HI1.out.cell 1; have i2 := HI1.out.cell 2; have i3 := HI1.out.cell 3; have i4 := HI1.out.cell 4; clear g0 g1 g2 g3 g4 hw)
      | (go_at_call 48; have hk := below_alloc w1 (.cells #[.int .i64 2, .int .i64 3] 2); have g3 := HB.out.trans (hk.mono HB.out.size); refine (HQ.out HU.out _ w1.heap.size (W.heap.size + 1) g3 (Nat.lt_trans HS1.out.lt (lt_alloc _ _)) (HS1.out.alloc _) (RW.new w1 #[.int .i64 2, .int .i64 3] 2)).mono ?_; rintro e w2 ⟨⟨A0r, n0r, c0r, hr0, A2r, n2r, c2r, hr2, A3r, n3r, c3r, hr3, A4r, n4r, c4r, hr4⟩, zs, he, h⟩; obtain rfl : e = .returned (.tuple #[.agg #[.slice A0r n0r c0r, .int .i64 z1, .slice A2r n2r c2r, .slice A3r n3r c3r, .slice A4r n4r c4r], .int .i64 K]) := he; obtain ⟨ho, hb⟩ := h.out; have HO2 := Lib.hid (ho.lower g3.size); have HB2 := Lib.hid (g3.trans (hb.mono g3.size)); have HR2 := Lib.hid ((HR.out.alloc (.cells #[.int .i64 2, .int .i64 3] 2)).below hb (Nat.lt_trans HR.out.lt (lt_alloc _ _))); have q0 := HR2.out.cell 0; have q1 := HR2.out.cell 1; have q2 := HR2.out.cell 2; have q3 := HR2.out.cell 3; have q4 := HR2.out.cell 4; have k0 := HR2.out.frozen 0; have k1 := HR2.out.frozen 1; have k2 := HR2.out.frozen 2; have k3 := HR2.out.frozen 3; have k4 := HR2.out.frozen 4; clear h ho hb g3 hk i0 i1 i2 i3 i4 r0 r1 r2 r3 r4 s0 s1 s2 s3 s4))
    refine bodyPost_ret (v := .tuple #[.agg #[.slice A0r n0r c0r, .int .i64 z1, .slice A2r n2r c2r, .slice A3r n3r c3r, .slice A4r n4r c4r], .int .i64 K]) (results_row_tmp Tryd.results19 _ _ (W.heap.size + 2) 29 _ (0, 0) _ _ rfl rfl (sets_five HR2.out) Tryd.underlying29 rfl (by kernel_rfl)) rfl ?_
    exact ⟨⟨A0r, n0r, c0r, hr0, A2r, n2r, c2r, hr2, A3r, n3r, c3r, hr3, A4r, n4r, c4r, hr4⟩, zs, rfl, Lib.hid ⟨own_five HO2.out HR2.out, below_five HB2.out (by omega) _ _ _ _ _⟩⟩
end Go.Proofs.YtlohjmlenbkbmaaDoor

namespace Go.Proofs.YtlohjmlenbkbmaaDoor
open Go Go.RowKit

def rwFw : Fl → Fl × Int := fun y => (y, 0)
theorem code_ex (x : Cn) (s : ByteArray) : ∃ k c, CodeP x s k c := by
  obtain ⟨K, X, hu⟩ := UseR.ex x s [] rwFw
  rcases CodeP.ofUse hu with ⟨_, h, _⟩ | ⟨_, h, _⟩ | ⟨_, m, y, _, h, _⟩
  · exact ⟨_, _, h⟩
  · exact ⟨_, _, h⟩
  · exact ⟨_, _, h⟩

set_option maxHeartbeats 8000000 in
set_option maxRecDepth 100000 in
theorem spec_WriteFile_any (x : Cn) (l : CnLay) (s t : ByteArray) (K : Int) (X : Cn) (W : World) (hv : CnV W W.heap.size x l) (h0 : l.n0 ≤ 1048576) (h2 : l.n2 ≤ 1048576) (h4 : l.n4 ≤ 1048576) (h3 : l.n3 ≤ 1048576) (hF : ∀ (j : Nat) (y : Fl), x.files_[j]? = some y → y.lines_.length ≤ 1048576) (hs : s.size ≤ maxLen) (ht : t.size ≤ 1048576) (hU : WrR x s t K X) :
    Calls Tryd.prog 18 #[x.ag l, .string s, .string t] W (ConR K X W) := by
  have HCO := Lib.hid (fun (w : World) (hb : Below W.heap.size W w) (hg : RW 29 w W.heap.size #[.slice l.A0 l.n0 l.c0, .int .i64 x.at_, .slice l.A2 l.n2 l.c2, .slice l.A3 l.n3 l.c3, .slice l.A4 l.n4 l.c4]) (k c : Int) (hc : CodeP x s k c) => l21Code_any x l W.heap.size s k c w hg (hv.go hb) hs hc)
  have HOW := Lib.hid (fun (w : World) (hb : Below W.heap.size W w) (hg : RW 29 w W.heap.size #[.slice l.A0 l.n0 l.c0, .int .i64 x.at_, .slice l.A2 l.n2 l.c2, .slice l.A3 l.n3 l.c3, .slice l.A4 l.n4 l.c4]) => l21Own_any x l W.heap.size w hg (hv.go hb) h0 h2 h4 h3 hF)
  have HI3 := Lib.hid hv.2.2.1
  obtain ⟨kc, cc, hCP0⟩ := code_ex x s
  have hlines : consoleB x = true → ∀ (m : Nat) (y : Fl), x.files_[m]? = some y → y.lines_.length ≤ 40 := fun h m y hy => by
    have h1 := ((files_ok h).2 m y (List.getElem?_eq_some_iff.1 hy).1 hy).1
    unfold fileB linesB at h1
    simp only [Bool.and_eq_true, decide_eq_true_eq] at h1
    exact h1.2.1.1
  obtain ⟨x0, x1, x2, x3, x4⟩ := x
  obtain ⟨A0, n0, c0, h0', A2, n2, c2, h2', A3, n3, c3, h3', A4, n4, c4, h4'⟩ := l
  have HC := Lib.hid (two_newT W 29 #[.slice A0 n0 c0, .int .i64 x1, .slice A2 n2 c2, .slice A3 n3 c3, .slice A4 n4 c4] #[.slice none 0 0, .int .i64 0, .slice none 0 0, .slice none 0 0, .slice none 0 0])
  clear hv h0 h2 h4 h3 hF hs
  show Calls Tryd.prog 18 #[.agg #[.slice A0 n0 c0, .int .i64 x1, .slice A2 n2 c2, .slice A3 n3 c3, .slice A4 n4 c4], .string s, .string t] W _
  rcases hU with ⟨hlong, rfl, rfl⟩ | ⟨hshort, hU⟩
  · have dl : (200 : Int) < (t.size : Int) := by omega
    have dl2 : decide ((200 : Int) < (t.size : Int)) = true := decide_eq_true dl
    have hCP := hCP0
    have dl : (200 : Int) < (t.size : Int) := by omega
    clear HOW HI3 hlines hlong hCP0
    go_enter Tryd.func18, Tryd.ntmps18
    go_wp2_with (go_at_call 47; obtain ⟨g0, g1, g2, g3⟩ := HC.out _ rfl; refine (HCO.out _ g2 g0 kc cc hCP).mono ?_; rintro e w1 ⟨rfl, hb⟩; have HB := Lib.hid (g2.trans (hb.mono g2.size)); have HR := Lib.hid (g1.below hb g1.lt); have HI := Lib.hid (g0.below hb g0.lt); have r0 := HR.out.cell 0; have r1 := HR.out.cell 1; have r2 := HR.out.cell 2; have r3 := HR.out.cell 3; have r4 := HR.out.cell 4; have s0 := HR.out.frozen 0; have s1 := HR.out.frozen 1; have s2 := HR.out.frozen 2; have s3 := HR.out.frozen 3; have s4 := HR.out.frozen 4; have i3 := HI.out.cell 3; clear g0 g1 g2 g3 hb)
    exact bodyPost_ret (v := .tuple #[.agg zeroC, .int .i64 1]) (results_row_tmp Tryd.results18 _ _ (W.heap.size + 1) 29 zeroC (0, 0) _ _ rfl rfl (sets_zero HR.out) Tryd.underlying29 rfl (by kernel_rfl)) rfl (ConR.zero (below_five HB.out (by omega) _ _ _ _ _))
  have dl : ¬ (200 : Int) < (t.size : Int) := by omega
  have dl2 : decide ((200 : Int) < (t.size : Int)) = false := decide_eq_false dl
  have hCU := CodeP.ofUse hU
  clear hCP0 hU
  rcases hCU with ⟨_, hCP, rfl, rfl⟩ | ⟨_, hCP, rfl, rfl⟩ | ⟨hcb, m, y, hy, hCP, hU⟩
  · clear HOW HI3 hlines
    go_enter Tryd.func18, Tryd.ntmps18
    go_wp2_with (go_at_call 47; obtain ⟨g0, g1, g2, g3⟩ := HC.out _ rfl; refine (HCO.out _ g2 g0 0 1 hCP).mono ?_; rintro e w1 ⟨rfl, hb⟩; have HB := Lib.hid (g2.trans (hb.mono g2.size)); have HR := Lib.hid (g1.below hb g1.lt); have HI := Lib.hid (g0.below hb g0.lt); have r0 := HR.out.cell 0; have r1 := HR.out.cell 1; have r2 := HR.out.cell 2; have r3 := HR.out.cell 3; have r4 := HR.out.cell 4; have s0 := HR.out.frozen 0; have s1 := HR.out.frozen 1; have s2 := HR.out.frozen 2; have s3 := HR.out.frozen 3; have s4 := HR.out.frozen 4; have i3 := HI.out.cell 3; clear g0 g1 g2 g3 hb)
    exact bodyPost_ret (v := .tuple #[.agg zeroC, .int .i64 1]) (results_row_tmp Tryd.results18 _ _ (W.heap.size + 1) 29 zeroC (0, 0) _ _ rfl rfl (sets_zero HR.out) Tryd.underlying29 rfl (by kernel_rfl)) rfl (ConR.zero (below_five HB.out (by omega) _ _ _ _ _))
  · clear HOW HI3 hlines
    go_enter Tryd.func18, Tryd.ntmps18
    go_wp2_with (go_at_call 47; obtain ⟨g0, g1, g2, g3⟩ := HC.out _ rfl; refine (HCO.out _ g2 g0 0 11 hCP).mono ?_; rintro e w1 ⟨rfl, hb⟩; have HB := Lib.hid (g2.trans (hb.mono g2.size)); have HR := Lib.hid (g1.below hb g1.lt); have HI := Lib.hid (g0.below hb g0.lt); have r0 := HR.out.cell 0; have r1 := HR.out.cell 1; have r2 := HR.out.cell 2; have r3 := HR.out.cell 3; have r4 := HR.out.cell 4; have s0 := HR.out.frozen 0; have s1 := HR.out.frozen 1; have s2 := HR.out.frozen 2; have s3 := HR.out.frozen 3; have s4 := HR.out.frozen 4; have i3 := HI.out.cell 3; clear g0 g1 g2 g3 hb)
    exact bodyPost_ret (v := .tuple #[.agg zeroC, .int .i64 11]) (results_row_tmp Tryd.results18 _ _ (W.heap.size + 1) 29 zeroC (0, 0) _ _ rfl rfl (sets_zero HR.out) Tryd.underlying29 rfl (by kernel_rfl)) rfl (ConR.zero (below_five HB.out (by omega) _ _ _ _ _))
  have hl40 := hlines hcb m y hy
  have hlt : m < n3 := by have h1 := (List.getElem?_eq_some_iff.1 hy).1; have h2 : x3.length = n3 := HI3.out.1; dsimp only at h1; omega
  have hnb : n3 ≤ 9223372036854775807 := by have := HI3.out.2.1; unfold maxLen at this; omega
  have b0 : (0 : Int) ≤ (m : Int) := by omega
  have b1 : (m : Int) < (n3 : Int) := by omega
  have hm0 : ¬ ((m : Int) < 0) := by omega
  obtain ⟨b, off, y', ly, rfl, hgb, hy', hat, hvy⟩ := HI3.out.at_ hlt
  obtain rfl : y' = y := Option.some.inj (hy'.symm.trans hy)
  have HAT := Lib.hid (fun (w : World) (hb : Below W.heap.size W w) => hat.below hb hgb)
  have HY := Lib.hid hy
  have HLN : Hid (y'.lines_.length = ly.n1) := hvy.1.1
  clear hlines hcb hy' hat hgb hvy
  rcases hU with ⟨hct, rfl, rfl⟩ | ⟨hct, hU⟩
  · have hm2 : ¬ y'.mode_ = 2 := fun h => by rw [h] at hct; simp at hct
    have hm3 : ¬ y'.mode_ = 3 := fun h => by rw [h] at hct; simp at hct
    have hb2 : (y'.mode_ != 2) = true := by simp [hm2]
    have hb3 : (y'.mode_ != 3) = true := by simp [hm3]
    clear HOW hct
    go_enter Tryd.func18, Tryd.ntmps18
    go_wp2_with (go_at_call 47; obtain ⟨g0, g1, g2, g3⟩ := HC.out _ rfl; refine (HCO.out _ g2 g0 (m : Int) 0 hCP).mono ?_; rintro e w1 ⟨rfl, hb⟩; have HB := Lib.hid (g2.trans (hb.mono g2.size)); have HR := Lib.hid (g1.below hb g1.lt); have HI := Lib.hid (g0.below hb g0.lt); have r0 := HR.out.cell 0; have r1 := HR.out.cell 1; have r2 := HR.out.cell 2; have r3 := HR.out.cell 3; have r4 := HR.out.cell 4; have s0 := HR.out.frozen 0; have s1 := HR.out.frozen 1; have s2 := HR.out.frozen 2; have s3 := HR.out.frozen 3; have s4 := HR.out.frozen 4; have i3 := HI.out.cell 3; obtain ⟨j0, j1, j2, j3⟩ := HAT.out _ HB.out; have a0 : ∀ o, (w1.alloc o).cell? ⟨W.heap.size + 1, 0, none⟩ = some (.slice none 0 0) := (fun o => (HR.out.alloc o).cell 0); have a1 : ∀ o, (w1.alloc o).cell? ⟨W.heap.size + 1, 1, none⟩ = some (.int .i64 0) := (fun o => (HR.out.alloc o).cell 1); have a2 : ∀ o, (w1.alloc o).cell? ⟨W.heap.size + 1, 2, none⟩ = some (.slice none 0 0) := (fun o => (HR.out.alloc o).cell 2); have a3 : ∀ o, (w1.alloc o).cell? ⟨W.heap.size + 1, 3, none⟩ = some (.slice none 0 0) := (fun o => (HR.out.alloc o).cell 3); have a4 : ∀ o, (w1.alloc o).cell? ⟨W.heap.size + 1, 4, none⟩ = some (.slice none 0 0) := (fun o => (HR.out.alloc o).cell 4); have e0 : ∀ o, (w1.alloc o).frozen? ⟨W.heap.size + 1, 0, none⟩ = false := (fun o => (HR.out.alloc o).frozen 0); have e1 : ∀ o, (w1.alloc o).frozen? ⟨W.heap.size + 1, 1, none⟩ = false := (fun o => (HR.out.alloc o).frozen 1); have e2 : ∀ o, (w1.alloc o).frozen? ⟨W.heap.size + 1, 2, none⟩ = false := (fun o => (HR.out.alloc o).frozen 2); have e3 : ∀ o, (w1.alloc o).frozen? ⟨W.heap.size + 1, 3, none⟩ = false := (fun o => (HR.out.alloc o).frozen 3); have e4 : ∀ o, (w1.alloc o).frozen? ⟨W.heap.size + 1, 4, none⟩ = false := (fun o => (HR.out.alloc o).frozen 4); have nq1 : ¬ W.heap.size + 1 = w1.heap.size := (by have := HR.out.lt; omega); clear g0 g1 g2 g3 hb)
    exact bodyPost_ret (v := .tuple #[.agg zeroC, .int .i64 10]) (results_row_tmp Tryd.results18 _ _ (W.heap.size + 1) 29 zeroC (0, 0) _ _ rfl rfl (sets_zero (HR.out.alloc _)) Tryd.underlying29 rfl (by kernel_rfl)) rfl (ConR.zero (below_five (HB.out.trans ((below_alloc _ _).mono HB.out.size)) (by omega) _ _ _ _ _))
  have hmm : y'.mode_ = 2 ∨ y'.mode_ = 3 := by simpa using hct
  clear hct
  by_cases h40 : y'.lines_.length = 40
  · obtain ⟨rfl, rfl⟩ : K = 6 ∧ X = zC := by
      have e : wrF t y' = (y', 6) := by unfold wrF; rw [if_pos h40]
      rw [e] at hU
      rcases hU with ⟨h, _⟩ | ⟨_, rfl, rfl⟩
      · simp at h
      · exact ⟨rfl, rfl⟩
    have dn : (40 : Int) ≤ (ly.n1 : Int) := by have := HLN.out; omega
    have dn2 : decide ((40 : Int) ≤ (ly.n1 : Int)) = true := decide_eq_true dn
    have hmb : (y'.mode_ != 2) = false ∨ ((y'.mode_ != 2) = true ∧ (y'.mode_ != 3) = false) := by rcases hmm with h | h <;> simp [h]
    clear HOW hU hmm
    rcases hmb with hb2 | ⟨hb2, hb3⟩
    all_goals
      go_enter Tryd.func18, Tryd.ntmps18
      go_wp2_with (go_at_call 47; obtain ⟨g0, g1, g2, g3⟩ := HC.out _ rfl; refine (HCO.out _ g2 g0 (m : Int) 0 hCP).mono ?_; rintro e w1 ⟨rfl, hb⟩; have HB := Lib.hid (g2.trans (hb.mono g2.size)); have HR := Lib.hid (g1.below hb g1.lt); have HI := Lib.hid (g0.below hb g0.lt); have r0 := HR.out.cell 0; have r1 := HR.out.cell 1; have r2 := HR.out.cell 2; have r3 := HR.out.cell 3; have r4 := HR.out.cell 4; have s0 := HR.out.frozen 0; have s1 := HR.out.frozen 1; have s2 := HR.out.frozen 2; have s3 := HR.out.frozen 3; have s4 := HR.out.frozen 4; have i3 := HI.out.cell 3; obtain ⟨j0, j1, j2, j3⟩ := HAT.out _ HB.out; have a0 : ∀ o, (w1.alloc o).cell? ⟨W.heap.size + 1, 0, none⟩ = some (.slice none 0 0) := (fun o => (HR.out.alloc o).cell 0); have a1 : ∀ o, (w1.alloc o).cell? ⟨W.heap.size + 1, 1, none⟩ = some (.int .i64 0) := (fun o => (HR.out.alloc o).cell 1); have a2 : ∀ o, (w1.alloc o).cell? ⟨W.heap.size + 1, 2, none⟩ = some (.slice none 0 0) := (fun o => (HR.out.alloc o).cell 2); have a3 : ∀ o, (w1.alloc o).cell? ⟨W.heap.size + 1, 3, none⟩ = some (.slice none 0 0) := (fun o => (HR.out.alloc o).cell 3); have a4 : ∀ o, (w1.alloc o).cell? ⟨W.heap.size + 1, 4, none⟩ = some (.slice none 0 0) := (fun o => (HR.out.alloc o).cell 4); have e0 : ∀ o, (w1.alloc o).frozen? ⟨W.heap.size + 1, 0, none⟩ = false := (fun o => (HR.out.alloc o).frozen 0); have e1 : ∀ o, (w1.alloc o).frozen? ⟨W.heap.size + 1, 1, none⟩ = false := (fun o => (HR.out.alloc o).frozen 1); have e2 : ∀ o, (w1.alloc o).frozen? ⟨W.heap.size + 1, 2, none⟩ = false := (fun o => (HR.out.alloc o).frozen 2); have e3 : ∀ o, (w1.alloc o).frozen? ⟨W.heap.size + 1, 3, none⟩ = false := (fun o => (HR.out.alloc o).frozen 3); have e4 : ∀ o, (w1.alloc o).frozen? ⟨W.heap.size + 1, 4, none⟩ = false := (fun o => (HR.out.alloc o).frozen 4); have nq1 : ¬ W.heap.size + 1 = w1.heap.size := (by have := HR.out.lt; omega); clear g0 g1 g2 g3 hb)
      exact bodyPost_ret (v := .tuple #[.agg zeroC, .int .i64 6]) (results_row_tmp Tryd.results18 _ _ (W.heap.size + 1) 29 zeroC (0, 0) _ _ rfl rfl (sets_zero (HR.out.alloc _)) Tryd.underlying29 rfl (by kernel_rfl)) rfl (ConR.zero (below_five (HB.out.trans ((below_alloc _ _).mono HB.out.size)) (by omega) _ _ _ _ _))
  obtain ⟨rfl, rfl⟩ : K = 0 ∧ X = { (⟨x0, x1, x2, x3, x4⟩ : Cn) with files_ := x3.set m { y' with lines_ := y'.lines_ ++ [t] } } := by
    have e : wrF t y' = ({ y' with lines_ := y'.lines_ ++ [t] }, 0) := by unfold wrF; rw [if_neg h40]
    rw [e] at hU
    rcases hU with ⟨_, rfl, rfl⟩ | ⟨h, _⟩
    · exact ⟨rfl, rfl⟩
    · exact absurd rfl h
  have dn : ¬ (40 : Int) ≤ (ly.n1 : Int) := by have := HLN.out; omega
  have dn2 : decide ((40 : Int) ≤ (ly.n1 : Int)) = false := decide_eq_false dn
  have hmb : (y'.mode_ != 2) = false ∨ ((y'.mode_ != 2) = true ∧ (y'.mode_ != 3) = false) := by rcases hmm with h | h <;> simp [h]
  clear hU h40 hmm
  rcases hmb with hb2 | ⟨hb2, hb3⟩
  all_goals
    go_enter Tryd.func18, Tryd.ntmps18
    go_wp2_with (first
      | (go_at_call 47; obtain ⟨g0, g1, g2, g3⟩ := HC.out _ rfl; refine (HCO.out _ g2 g0 (m : Int) 0 hCP).mono ?_; rintro e w1 ⟨rfl, hb⟩; have HB := Lib.hid (g2.trans (hb.mono g2.size)); have HR := Lib.hid (g1.below hb g1.lt); have HI := Lib.hid (g0.below hb g0.lt); have r0 := HR.out.cell 0; have r1 := HR.out.cell 1; have r2 := HR.out.cell 2; have r3 := HR.out.cell 3; have r4 := HR.out.cell 4; have s0 := HR.out.frozen 0; have s1 := HR.out.frozen 1; have s2 := HR.out.frozen 2; have s3 := HR.out.frozen 3; have s4 := HR.out.frozen 4; have i3 := HI.out.cell 3; obtain ⟨j0, j1, j2, j3⟩ := HAT.out _ HB.out; have a0 : ∀ o, (w1.alloc o).cell? ⟨W.heap.size + 1, 0, none⟩ = some (.slice none 0 0) := (fun o => (HR.out.alloc o).cell 0); have a1 : ∀ o, (w1.alloc o).cell? ⟨W.heap.size + 1, 1, none⟩ = some (.int .i64 0) := (fun o => (HR.out.alloc o).cell 1); have a2 : ∀ o, (w1.alloc o).cell? ⟨W.heap.size + 1, 2, none⟩ = some (.slice none 0 0) := (fun o => (HR.out.alloc o).cell 2); have a3 : ∀ o, (w1.alloc o).cell? ⟨W.heap.size + 1, 3, none⟩ = some (.slice none 0 0) := (fun o => (HR.out.alloc o).cell 3); have a4 : ∀ o, (w1.alloc o).cell? ⟨W.heap.size + 1, 4, none⟩ = some (.slice none 0 0) := (fun o => (HR.out.alloc o).cell 4); have e0 : ∀ o, (w1.alloc o).frozen? ⟨W.heap.size + 1, 0, none⟩ = false := (fun o => (HR.out.alloc o).frozen 0); have e1 : ∀ o, (w1.alloc o).frozen? ⟨W.heap.size + 1, 1, none⟩ = false := (fun o => (HR.out.alloc o).frozen 1); have e2 : ∀ o, (w1.alloc o).frozen? ⟨W.heap.size + 1, 2, none⟩ = false := (fun o => (HR.out.alloc o).frozen 2); have e3 : ∀ o, (w1.alloc o).frozen? ⟨W.heap.size + 1, 3, none⟩ = false := (fun o => (HR.out.alloc o).frozen 3); have e4 : ∀ o, (w1.alloc o).frozen? ⟨W.heap.size + 1, 4, none⟩ = false := (fun o => (HR.out.alloc o).frozen 4); have nq1 : ¬ W.heap.size + 1 = w1.heap.size := (by have := HR.out.lt; omega); clear g0 g1 g2 g3 hb)
      | (go_at_call 32; have hk := below_alloc w1 (.cells #[.string y'.name_, .slice ly.A1 ly.n1 ly.c1, .int .i64 y'.mode_, .int .i64 y'.at_] 50); have hB1 := HB.out.trans (hk.mono HB.out.size); refine (HOW.out _ hB1 (HI.out.alloc _)).mono ?_; rintro e w2 ⟨⟨A0r, n0r, c0r, hr0, A2r, n2r, c2r, hr2, A3r, n3r, c3r, hr3, A4r, n4r, c4r, hr4⟩, zs, he, h⟩; obtain rfl : e = .returned (.agg #[.slice A0r n0r c0r, .int .i64 x1, .slice A2r n2r c2r, .slice A3r n3r c3r, .slice A4r n4r c4r]) := he; obtain ⟨ho, hb⟩ := h.out; obtain ⟨g3, lz, cur, hA3, hz, hmr, hrF, hsz, hcell⟩ := ho.file HY.out; dsimp only at hA3 hmr; subst hA3; have hmr1 : (m : Int) < (n3r : Int) := (by omega); have HO2 := Lib.hid (ho.lower hB1.size); have HB2 := Lib.hid (hB1.trans (hb.mono hB1.size)); have HR2 := Lib.hid ((HR.out.alloc (.cells #[.string y'.name_, .slice ly.A1 ly.n1 ly.c1, .int .i64 y'.mode_, .int .i64 y'.at_] 50)).below hb (Nat.lt_trans HR.out.lt (lt_alloc _ _))); have HZ2 := Lib.hid hz; have HF2 := Lib.hid hrF; have HEL2 := Lib.hid hcell; have HSZ2 := Lib.hid hsz; clear h ho hb hk hB1 hz hrF hsz hcell r0 r1 r2 r3 r4 s0 s1 s2 s3 s4 i3 j0 j1 j2 j3 a0 a1 a2 a3 a4 e0 e1 e2 e3 e4 nq1))
    obtain ⟨w3, hw3⟩ : ∃ w3, w2.alloc (.cells #[.slice A0r n0r c0r, .int .i64 x1, .slice A2r n2r c2r, .slice (some ⟨g3, 0, none⟩) n3r c3r, .slice A4r n4r c4r] 29) = w3 := ⟨_, rfl⟩
    have hk3 := below_alloc w2 (.cells #[.slice A0r n0r c0r, .int .i64 x1, .slice A2r n2r c2r, .slice (some ⟨g3, 0, none⟩) n3r c3r, .slice A4r n4r c4r] 29)
    rw [hw3] at hk3
    have HR3 := Lib.hid (HR2.out.below hk3 HR2.out.lt)
    have HF3 := Lib.hid (HF2.out.below hk3 HF2.out.lt)
    have HO3 := Lib.hid (HO2.out.keep hk3)
    have HB3 := Lib.hid (HB2.out.trans (hk3.mono HB2.out.size))
    have HQ3 : Hid (RW 29 w3 w2.heap.size #[.slice A0r n0r c0r, .int .i64 x1, .slice A2r n2r c2r, .slice (some ⟨g3, 0, none⟩) n3r c3r, .slice A4r n4r c4r]) := by show RW _ _ _ _; rw [← hw3]; exact RW.new _ _ _
    rw [hw3]
    obtain ⟨B1, k1, d1, e1⟩ := lz
    have HD3 : Hid (OwnS w3 W.heap.size B1 k1 d1 y'.lines_) := (HO3.out.o3.el m _ HZ2.out).1
    have hk1 : k1 ≤ 1000 := by have := HD3.out.len; omega
    have u1 : w3.cell? ⟨g3, m * 4 + 1, none⟩ = some (.slice B1 k1 d1) := (HF3.out.cell _).trans (HEL2.out 1 _ rfl)
    have q3 : w3.cell? ⟨w2.heap.size, 3, none⟩ = some (.slice (some ⟨g3, 0, none⟩) n3r c3r) := HQ3.out.cell 3
    have qA : ∀ o, (w3.alloc o).cell? ⟨w2.heap.size, 3, none⟩ = some (.slice (some ⟨g3, 0, none⟩) n3r c3r) := fun o => (HQ3.out.alloc o).cell 3
    have uA : ∀ o, (w3.alloc o).cell? ⟨g3, m * 4 + 1, none⟩ = some (.slice B1 k1 d1) := fun o => ((HF3.out.alloc o).cell _).trans (HEL2.out 1 _ rfl)
    have uF : ∀ o, (w3.alloc o).frozen? ⟨g3, m * 4 + 1, none⟩ = false := fun o => (HF3.out.alloc o).frozen _
    obtain ⟨i0, hi0, hz0, hz1, hz2⟩ := info_parts infoStr
    have HII := Lib.hid (And.intro hi0 (And.intro hz0 (And.intro hz1 hz2)))
    have HTS : Hid (t.size ≤ maxLen) := by show _ ≤ _; unfold maxLen; omega
    have HWS : Hid (W.heap.size ≤ w3.heap.size) := HB3.out.size
    clear hw3 hk3 hi0 hz0 hz1 hz2
    go_cut [] from 45 to 58 (fun wx => Hid (WEnd W ⟨x0, x1, x2, x3.set m { y' with lines_ := y'.lines_ ++ [t] }, x4⟩ ⟨A0r, n0r, c0r, hr0, A2r, n2r, c2r, hr2, some ⟨g3, 0, none⟩, n3r, c3r, hr3, A4r, n4r, c4r, hr4⟩ w2.heap.size #[.slice A0r n0r c0r, .int .i64 x1, .slice A2r n2r c2r, .slice (some ⟨g3, 0, none⟩) n3r c3r, .slice A4r n4r c4r] wx))
    case first =>
      go_region_law (go_loud (refine step_append_lies _ (by rfl) _ _ _ (by rfl) W.heap.size 9 i0 (.string ⟨#[]⟩) 1 16 Tryd.underlying22 HII.out.1 HII.out.2.1 HII.out.2.2.1 HII.out.2.2.2 (by rfl) (by decide) (.slice B1 k1 d1) k1 (valsSt y'.lines_) (by rfl) (HD3.out.keep (below_da w3 _)).1 ⟨w3.heap.size, 0, none⟩ 1 1 [.string t] (by rfl) (by rfl) (cell_one_new w3.drew _ _) (fun x hx => by simp at hx; subst hx; rfl) (by decide) (by unfold maxLen; omega) (by omega) (by have := HWS.out; simp; omega) (w3.heap.size + 1) (by simp) ?_; intro g9 cap9 w7 hown1 hgr1 hat hlt9; have HT7 := Lib.hid (turn_grown (below_da w3 _) HD3.out hgr1); have HO7 := Lib.hid (OwnS.snoc (w1 := w3) HD3.out HTS.out hown1); have HA7 : Hid (∀ b, AtB (some ⟨g9, 0, none⟩) b → AtB B1 b ∨ w3.heap.size ≤ b) := (fun b hb => by rw [AtB, Option.some.injEq, Addr.mk.injEq] at hb; obtain ⟨rfl, _⟩ := hb; rcases hat with h | h; exact .inl (own_atB' HD3.out h); exact .inr (by omega)); have HX7 : Hid (∀ (T : TypeId) (g : Nat) (cs : Array Value), 9 ≠ T → RW T w3 g cs → RW T w7 g cs) := (fun T g cs hT hr => (HT7.out.2.2.2.2 g hr.lt (fun h => by obtain ⟨_, cs2, hrs⟩ := HD3.out.row h; exact hT (RW.same hrs hr).1)).trans hr); have hF7 := HX7.out _ _ _ (by decide) HF3.out; have u7 : w7.cell? ⟨g3, m * 4 + 1, none⟩ = some (.slice B1 k1 d1) := (hF7.cell _).trans (HEL2.out 1 _ rfl); have v7 := hF7.frozen (m * 4 + 1); have q7 : w7.cell? ⟨w2.heap.size, 3, none⟩ = some (.slice (some ⟨g3, 0, none⟩) n3r c3r) := (HX7.out _ _ _ (by decide) HQ3.out).cell 3; clear hown1 hgr1 hat hlt9 hF7))
      all_goals (go_wp2_with fail; go_meet)
      all_goals exact Lib.hid (WEnd.mk' HO3.out rfl HZ2.out HT7.out HO7.out HA7.out HF3.out (HX7.out _ _ _ (by decide) HF3.out) (HX7.out _ _ _ (by decide) HR3.out) (HX7.out _ _ _ (by decide) HQ3.out) HB3.out)
    case rest =>
      obtain ⟨⟨zs', hO9⟩, hR9, hQ9, hB9⟩ := hcut.out
      clear hcut HO3 HZ2 HF3 HR3 HQ3 HB3 HD3 HEL2 HII HTS HWS qA uA uF u1 q3 HR2 HF2 HO2 HB2 HSZ2
      have r0 := hR9.cell 0
      have r1 := hR9.cell 1
      have r2 := hR9.cell 2
      have r3 := hR9.cell 3
      have r4 := hR9.cell 4
      have s0 := hR9.frozen 0
      have s1 := hR9.frozen 1
      have s2 := hR9.frozen 2
      have s3 := hR9.frozen 3
      have s4 := hR9.frozen 4
      have p0 := hQ9.cell 0
      have p1 := hQ9.cell 1
      have p2 := hQ9.cell 2
      have p3 := hQ9.cell 3
      have p4 := hQ9.cell 4
      go_wp2_with fail
      refine bodyPost_ret (v := .tuple #[.agg #[.slice A0r n0r c0r, .int .i64 x1, .slice A2r n2r c2r, .slice (some ⟨g3, 0, none⟩) n3r c3r, .slice A4r n4r c4r], .int .i64 0]) (results_row_tmp Tryd.results18 _ _ (W.heap.size + 1) 29 _ (0, 0) _ _ rfl rfl (sets_five hR9) Tryd.underlying29 rfl (by kernel_rfl)) rfl ?_
      exact ⟨⟨A0r, n0r, c0r, hr0, A2r, n2r, c2r, hr2, some ⟨g3, 0, none⟩, n3r, c3r, hr3, A4r, n4r, c4r, hr4⟩, _, rfl, Lib.hid ⟨own_five hO9 hR9, below_five hB9 (by omega) _ _ _ _ _⟩⟩
end Go.Proofs.YtlohjmlenbkbmaaDoor

namespace Go.Proofs.YtlohjmlenbkbmaaDoor
open Go Go.RowKit

theorem markFlsW (A : Option Addr) (n c k0 : Nat) (sh : Nat → FlLay) (W : World) (h : FlP W A n sh) (h0 : 0 < k0) (hk : k0 + cntFl sh n ≤ 16777000) :
    Calls Tryd.prog 44 #[.slice A n c, .int .i64 k0] W fun e w' => e = .returned (.int .i64 ((k0 + cntFl sh n : Nat) : Int)) ∧ Mut (SFlA A n sh) W w' := by
  rcases Nat.eq_zero_or_pos n with hn | hn
  · subst hn
    go_enter Tryd.func44, Tryd.ntmps44
    go_wp2
    go_loopw [1, 5] (fun q i wr => i = .int .i64 0 ∧ q = .int .i64 (k0 : Int) ∧ wr = W) (fun _ _ _ => 0)
    case atStart => exact ⟨rfl, rfl, rfl⟩
    case round =>
      obtain ⟨rfl, rfl, rfl⟩ := hrel
      go_wp2_with fail
      go_ret
      exact ⟨by simp [cntFl], Mut.refl _ _⟩
  · obtain ⟨g, rfl, hM⟩ := h hn
    refine (markFileS_mut g n c k0 sh W hM h0 hk).mono ?_
    rintro e w' ⟨he, hm, _⟩
    exact ⟨he, hm.mono fun j hj => ⟨hn, g, rfl, hj⟩⟩

set_option maxHeartbeats 2000000 in
set_option maxRecDepth 100000 in
theorem markConsole_w (x : Cn) (l : CnLay) (sh : Nat → FlLay) (k0 : Nat) (W : World) (h : CnM W l sh) (h0 : 0 < k0) (hk : k0 + cntCn l sh ≤ 16777000) :
    Calls Tryd.prog 14 #[x.ag l, .int .i64 k0] W fun e w' => e = .returned (.int .i64 ((k0 + cntCn l sh : Nat) : Int)) ∧ Mut (SCn l sh) W w' := by
  have HB := Lib.hid h.lt
  obtain ⟨x0, x1, x2, x3, x4⟩ := x
  obtain ⟨A0, n0, c0, h0', A2, n2, c2, h2', A3, n3, c3, h3', A4, n4, c4, h4'⟩ := l
  unfold cntCn at hk ⊢
  dsimp only at hk ⊢
  have HK := Lib.hid hk
  have HK1 := Lib.hid h0
  have HC := Lib.hid (fun X (e : X = W.alloc (.cells #[.slice A0 n0 c0, .int .i64 x1, .slice A2 n2 c2, .slice A3 n3 c3, .slice A4 n4 c4] 29)) => (show RW 29 X W.heap.size #[.slice A0 n0 c0, .int .i64 x1, .slice A2 n2 c2, .slice A3 n3 c3, .slice A4 n4 c4] ∧ Below W.heap.size W X ∧ CnM X ⟨A0, n0, c0, h0', A2, n2, c2, h2', A3, n3, c3, h3', A4, n4, c4, h4'⟩ sh from by
    have hb : Below W.heap.size W X := by rw [e]; exact below_alloc _ _
    exact ⟨by rw [e]; exact RW.new _ _ _, hb, h.below hb⟩))
  clear h
  have tk1 : True := trivial
  have tk2 : True := trivial
  have tk3 : True := trivial
  have tk4 : True := trivial
  show Calls Tryd.prog 14 #[.agg #[.slice A0 n0 c0, .int .i64 x1, .slice A2 n2 c2, .slice A3 n3 c3, .slice A4 n4 c4], .int .i64 k0] W _
  go_enter Tryd.func14, Tryd.ntmps14
  go_wp2_with (first
    | (go_at_call 43; have tk := tk1; obtain ⟨g0, g1, s0, s2, s3, s4⟩ := HC.out _ rfl; have hh := markStringS_mut A0 n0 c0 k0 _ s0 h0 (by have := HK.out; omega); refine hh.mono ?_; clear hh; rintro e w1 ⟨rfl, hm⟩; have HU1 : Hid (Mut (SCn ⟨A0, n0, c0, h0', A2, n2, c2, h2', A3, n3, c3, h3', A4, n4, c4, h4'⟩ sh) W w1) := (Mut.of_below g1).trans (hm.mono fun j hj => .inl hj); have HM1 : Hid (StW w1 A2 n2 ∧ FlP w1 A3 n3 sh ∧ StW w1 A4 n4) := ⟨s2.mut hm, s3.str s0 hm, s4.mut hm⟩; have HX1 : Hid (RW 29 w1 W.heap.size #[.slice A0 n0 c0, .int .i64 x1, .slice A2 n2 c2, .slice A3 n3 c3, .slice A4 n4 c4]) := hm.row g0 (fun hb => by have := HB.out _ (.inl hb); omega); have q1 : w1.cell? ⟨W.heap.size, 2, none⟩ = some (.slice A2 n2 c2) := HX1.out.cell 2; clear g0 g1 s0 s2 s3 s4 hm tk tk1)
    | (go_at_call 43; have tk := tk2; have hh := markStringS_mut A2 n2 c2 (k0 + n0) w1 HM1.out.1 (by omega) (by have := HK.out; omega); refine hh.mono ?_; clear hh; rintro e w2 ⟨rfl, hm⟩; have HU2 := Lib.hid (HU1.out.trans (hm.mono fun j hj => .inr (.inl hj))); have HM2 : Hid (FlP w2 A3 n3 sh ∧ StW w2 A4 n4) := ⟨HM1.out.2.1.str HM1.out.1 hm, HM1.out.2.2.mut hm⟩; have HX2 : Hid (RW 29 w2 W.heap.size #[.slice A0 n0 c0, .int .i64 x1, .slice A2 n2 c2, .slice A3 n3 c3, .slice A4 n4 c4]) := hm.row HX1.out (fun hb => by have := HB.out _ (.inr (.inl hb)); omega); have q2 : w2.cell? ⟨W.heap.size, 3, none⟩ = some (.slice A3 n3 c3) := HX2.out.cell 3; clear hm tk tk2)
    | (go_at_call 44; have tk := tk3; have hh := markFlsW A3 n3 c3 (k0 + n0 + n2) sh w2 HM2.out.1 (by omega) (by have := HK.out; omega); refine hh.mono ?_; clear hh; rintro e w3 ⟨rfl, hm⟩; have HU3 := Lib.hid (HU2.out.trans (hm.mono fun j hj => .inr (.inr (.inl hj)))); have HM3 : Hid (StW w3 A4 n4) := HM2.out.2.mut hm; have HX3 : Hid (RW 29 w3 W.heap.size #[.slice A0 n0 c0, .int .i64 x1, .slice A2 n2 c2, .slice A3 n3 c3, .slice A4 n4 c4]) := hm.row HX2.out (fun hb => by have := HB.out _ (.inr (.inr (.inl hb))); omega); have q3 : w3.cell? ⟨W.heap.size, 4, none⟩ = some (.slice A4 n4 c4) := HX3.out.cell 4; clear hm tk tk3)
    | (go_at_call 43; have tk := tk4; have hh := markStringS_mut A4 n4 c4 (k0 + n0 + n2 + cntFl sh n3) w3 HM3.out (by omega) (by have := HK.out; omega); refine hh.mono ?_; clear hh; rintro e w4 ⟨rfl, hm⟩; have HU4 := Lib.hid (HU3.out.trans (hm.mono fun j hj => .inr (.inr (.inr hj)))); clear hm tk tk4))
  go_ret
  exact ⟨i64_ret (by omega), HU4.out⟩

/-- A console of one's own has that shape. -/
theorem CnVO.toM {w : World} {B a : Nat} {x : Cn} {l : CnLay} (h : CnVO w B x l) (hb : ∃ b0 b2 b3 b4, l.A0 = some ⟨b0, 0, none⟩ ∧ l.A2 = some ⟨b2, 0, none⟩ ∧ l.A3 = some ⟨b3, 0, none⟩ ∧ l.A4 = some ⟨b4, 0, none⟩ ∧ a ≤ b0 ∧ a ≤ b2 ∧ a ≤ b3 ∧ a ≤ b4) : ∃ sh, CnM w l sh ∧ (∀ b, SCn l sh b → a ≤ b ∧ b < B) ∧ (∀ (j : Nat) (y : Fl), x.files_[j]? = some y → (sh j).n1 = y.lines_.length) ∧ l.n3 = x.files_.length := by
  obtain ⟨b0, b2, b3, b4, e0, e2, e3, e4, l0, l2, l3, l4⟩ := hb
  obtain ⟨h0, h2, h3, h4⟩ := h
  have k : ∀ {A : Option Addr} {n b c : Nat} {xs : List St}, StIO w B A n xs → A = some ⟨c, 0, none⟩ → a ≤ c → Blk1 A n b → a ≤ b ∧ b < B := fun {A n b c xs} hs e hl hb => by
    have h1 := hs.blk b hb
    have h2 := hb.2
    rw [e, Option.some.injEq, Addr.mk.injEq] at h2
    omega
  rcases Nat.eq_zero_or_pos l.n3 with hn | hn
  · refine ⟨fun _ => ⟨none, 0, 0, Nat.le_refl _⟩, ⟨h0.2, h2.2, fun h => absurd h (by omega), h4.2⟩, fun b hb => ?_, fun j y hj => ?_, h3.1.symm⟩
    · rcases hb with hb | hb | hb | hb
      · exact k h0 e0 l0 hb
      · exact k h2 e2 l2 hb
      · exact absurd hb.1 (by omega)
      · exact k h4 e4 l4 hb
    · have h1 := h3.1
      have h2 := (List.getElem?_eq_some_iff.1 hj).1
      omega
  · rw [e3] at h3
    obtain ⟨sh, hM, hS, hy⟩ := h3.toM hn
    refine ⟨sh, ⟨h0.2, h2.2, fun _ => ⟨b3, e3, hM⟩, h4.2⟩, fun b hb => ?_, hy, h3.1.symm⟩
    rcases hb with hb | hb | hb | hb
    · exact k h0 e0 l0 hb
    · exact k h2 e2 l2 hb
    · obtain ⟨_, g, e, hb⟩ := hb
      rw [e3, Option.some.injEq, Addr.mk.injEq] at e
      obtain ⟨rfl, _⟩ := e
      have := hS b hb
      omega
    · exact k h4 e4 l4 hb
theorem cnt_sum {sh : Nat → FlLay} {xs : List Fl} (h : ∀ (j : Nat) (y : Fl), xs[j]? = some y → (sh j).n1 = y.lines_.length) : ∀ k, k ≤ xs.length → cntFl sh k ≤ 3 * k + sumFl xs k
  | 0, _ => Nat.le_refl _
  | k + 1, hk => by
    have ih := cnt_sum h k (by omega)
    have e := List.getElem?_eq_getElem (show k < xs.length by omega)
    have h1 := h k _ e
    rw [cntFl, sumFl_next e]
    unfold szFl1 szSt
    omega
/-- How many marks a console takes that is as long as x. -/
theorem cnt_small {sh : Nat → FlLay} {l : CnLay} {x : Cn} (h : (szCn1 x : Int) ≤ 1048576) (hf : ∀ (j : Nat) (y : Fl), x.files_[j]? = some y → (sh j).n1 = y.lines_.length) (h0 : l.n0 ≤ x.input_.length + 1) (h2 : l.n2 ≤ x.output_.length + 1) (h3 : l.n3 = x.files_.length) (h4 : l.n4 ≤ x.trace_.length + 1) : 1 + cntCn l sh ≤ 16777000 := by
  have h1 := cnt_sum hf l.n3 (by omega)
  unfold szCn1 szSt szFl at h
  unfold cntCn
  rw [h3] at h1 ⊢
  omega
end Go.Proofs.YtlohjmlenbkbmaaDoor

namespace Go.Proofs.YtlohjmlenbkbmaaDoor
open Go Go.RowKit

theorem own_facts {B : Nat} {w : World} {x : Cn} {l : CnLay} {zs : List (Fl × FlLay)} (h : OwnCn B w x l zs) : CnV w w.heap.size x l ∧ CnM w l (shFl zs) ∧ CnApart l (shFl zs) ∧ (∀ b, SCn l (shFl zs) b → B ≤ b ∧ b < w.heap.size) ∧ (∀ (j : Nat) (y : Fl), x.files_[j]? = some y → (shFl zs j).n1 = y.lines_.length) ∧ l.n3 = x.files_.length := by
  obtain ⟨o0, o2, o4, o3, n3, fs, a02, a04, a24, a3⟩ := h
  have hown : OwnFl w B (.slice l.A3 zs.length l.c3) zs := by rw [n3]; exact o3.own
  have hn : zs.length ≤ maxLen := by
    rcases hown.2 with ⟨_, h0⟩ | ⟨g, cap, cur, e, hg, hh, h1, h2, _⟩
    · omega
    · omega
  have hV : FlI w w.heap.size l.A3 zs.length (zs.map Prod.fst) := ownFl_FlI hown (fun j p hp => ⟨(o3.el j p hp).1.toIO.1.1, (o3.el j p hp).2⟩) hn
  have hP : FlP w l.A3 zs.length (shFl zs) := ownFl_P hown fun j p hp => (o3.el j p hp).1.toIO.1.2
  rw [n3, fs] at hV
  rw [n3] at hP
  have hM : CnM w l (shFl zs) := ⟨o0.toIO.1.2, o2.toIO.1.2, hP, o4.toIO.1.2⟩
  refine ⟨⟨o0.toIO.1.1, o2.toIO.1.1, hV, o4.toIO.1.1⟩, hM, ⟨fun i j hi hj hij b hA hA' => ?_, fun b hA hA' => a02 b hA.atB hA'.atB, fun b hA hA' => a04 b hA.atB hA'.atB, fun b hA hA' => a24 b hA.atB hA'.atB, fun i hi b hA => ?_⟩, fun b hS => ⟨?_, hM.lt b hS⟩, fun j y hy => ?_, ?_⟩
  · obtain ⟨p, hp, e⟩ := shFl_get (zs := zs) (j := i) (by omega)
    obtain ⟨q, hq, e'⟩ := shFl_get (zs := zs) (j := j) (by omega)
    rw [e] at hA
    rw [e'] at hA'
    exact o3.ap i j p q hp hq hij b hA.atB hA'.atB
  · obtain ⟨p, hp, e⟩ := shFl_get (zs := zs) (j := i) (by omega)
    rw [e] at hA
    have h3 := a3 i p hp b hA.atB
    exact ⟨fun h => h3.1 h.atB, fun h => h3.2.1 h.atB, fun h => h3.2.2 h.atB⟩
  · rcases hS with hS | hS | hS | hS
    · exact (o0.row hS.atB).1
    · exact (o2.row hS.atB).1
    · obtain ⟨hn0, g, e, hS⟩ := hS
      rcases hS with rfl | ⟨j, hj, hS⟩
      · exact own_ge hown b (by rw [e]; rfl)
      · obtain ⟨p, hp, e'⟩ := shFl_get (zs := zs) (j := j) (by omega)
        rw [e'] at hS
        exact ((o3.el j p hp).1.row hS.atB).1
    · exact (o4.row hS.atB).1
  · rw [← fs, List.getElem?_map, Option.map_eq_some_iff] at hy
    obtain ⟨p, hp, rfl⟩ := hy
    rw [shFl_at hp]
    exact ((o3.el j p hp).1.len).symm
  · rw [← n3, ← fs, List.length_map]
/-- Blocks below it turn. -/
theorem OwnCn.low {B : Nat} {w w' : World} {x : Cn} {l : CnLay} {zs : List (Fl × FlLay)} (h : OwnCn B w x l zs) (hk : ∀ b, B ≤ b → b < w.heap.size → w'.heap[b]? = w.heap[b]?) : OwnCn B w' x l zs := by
  have k : ∀ {n c : Nat} {A : Option Addr} {xs : List St}, OwnS w B A n c xs → OwnS w' B A n c xs := fun {n c A xs} ho => ho.keepB fun b hb => hk b (ho.row hb).1 (ho.lt hb)
  refine ⟨k h.o0, k h.o2, k h.o4, ⟨⟨h.o3.own.1, ?_⟩, fun j p hp => ⟨k (h.o3.el j p hp).1, (h.o3.el j p hp).2⟩, h.o3.ap⟩, h.n3, h.fs, h.a02, h.a04, h.a24, h.a3⟩
  rcases h.o3.own.2 with h0 | ⟨b, cap, cur, hv, hb, hh, r⟩
  · exact .inl h0
  · exact .inr ⟨b, cap, cur, hv, hb, (hk b hb (RW.lt (T := 50) hh)).trans hh, r⟩
/-- How many marks an answer takes. -/
theorem useR_cnt {x X : Cn} {s : ByteArray} {ms : List Int} {act : Fl → Fl × Int} {K : Int} {sh : Nat → FlLay} {l : CnLay} (h : UseR x s ms act K X) (hact : ∀ y, (act y).1.lines_.length = y.lines_.length) (hz : (szCn1 x : Int) ≤ 1048576) (hf : ∀ (j : Nat) (y : Fl), X.files_[j]? = some y → (sh j).n1 = y.lines_.length) (h0 : l.n0 = X.input_.length) (h2 : l.n2 = X.output_.length) (h3 : l.n3 = X.files_.length) (h4 : l.n4 = X.trace_.length) : 1 + cntCn l sh ≤ 16777000 := by
  have key : X = zC ∨ ∃ (m : Nat) (y : Fl), x.files_[m]? = some y ∧ X = { x with files_ := x.files_.set m (act y).1 } := by
    rcases h with ⟨_, _, rfl⟩ | ⟨_, _, m, _, ⟨_, _, rfl⟩ | ⟨y, hy, _, ⟨_, _, rfl⟩ | ⟨_, ⟨_, _, rfl⟩ | ⟨_, _, rfl⟩⟩⟩⟩
    · exact .inl rfl
    · exact .inl rfl
    · exact .inl rfl
    · exact .inr ⟨m, y, hy, rfl⟩
    · exact .inl rfl
  rcases key with rfl | ⟨m, y, hy, rfl⟩
  · unfold cntCn
    rw [h0, h2, h3, h4]
    show 1 + (0 + 0 + cntFl sh 0 + 0) ≤ _
    rw [cntFl]
    omega
  · refine cnt_small hz (fun j z hj => ?_) (by rw [h0]; exact Nat.le_succ _) (by rw [h2]; exact Nat.le_succ _) (by rw [h3, List.length_set]) (by rw [h4]; exact Nat.le_succ _)
    by_cases e : j = m
    · subst e
      rw [hy] at hj
      cases hj
      have h1 := hf j (act y).1 (List.getElem?_set_self (List.getElem?_eq_some_iff.1 hy).1)
      rw [h1, hact]
    · exact hf j z (by show (x.files_.set m _)[j]? = _; rw [List.getElem?_set_ne (fun h => e h.symm)]; exact hj)
end Go.Proofs.YtlohjmlenbkbmaaDoor

namespace Go.Proofs.YtlohjmlenbkbmaaDoor
open Go Go.RowKit

theorem own_not {B g : Nat} {w : World} {x : Cn} {l : CnLay} {zs : List (Fl × FlLay)} {cs : Array Value} (h : OwnCn B w x l zs) (hr : RW 29 w g cs) : ¬ SCn l (shFl zs) g := fun hS => by
  have k : ∀ {n c : Nat} {A : Option Addr} {xs : List St}, OwnS w B A n c xs → AtB A g → False := fun {n c A xs} ho hb => by
    obtain ⟨_, cs', hr'⟩ := ho.row hb
    exact absurd (RW.same hr' hr).1 (by decide)
  rcases hS with hS | hS | hS | hS
  · exact k h.o0 hS.atB
  · exact k h.o2 hS.atB
  · obtain ⟨hn0, g', e, hS⟩ := hS
    rcases hS with rfl | ⟨j, hj, hS⟩
    · obtain ⟨cs', hr'⟩ := h.o3.own.blk g (by rw [e]; rfl)
      exact absurd (RW.same hr' hr).1 (by decide)
    · obtain ⟨p, hp, e'⟩ := shFl_get (zs := zs) (j := j) (by rw [h.n3]; exact hj)
      rw [e'] at hS
      exact k (h.o3.el j p hp).1 hS.atB
  · exact k h.o4 hS.atB

theorem cnt_sum1 {sh : Nat → FlLay} {xs : List Fl} (h : ∀ (j : Nat) (y : Fl), xs[j]? = some y → (sh j).n1 ≤ y.lines_.length + 1) : ∀ k, k ≤ xs.length → cntFl sh k ≤ 4 * k + sumFl xs k
  | 0, _ => Nat.le_refl _
  | k + 1, hk => by
    have ih := cnt_sum1 h k (by omega)
    have e := List.getElem?_eq_getElem (show k < xs.length by omega)
    have h1 := h k _ e
    rw [cntFl, sumFl_next e]
    unfold szFl1 szSt
    omega
theorem cnt_small1 {sh : Nat → FlLay} {l : CnLay} {x : Cn} (h : (szCn1 x : Int) ≤ 1048576) (hf : ∀ (j : Nat) (y : Fl), x.files_[j]? = some y → (sh j).n1 ≤ y.lines_.length + 1) (h0 : l.n0 ≤ x.input_.length + 1) (h2 : l.n2 ≤ x.output_.length + 1) (h3 : l.n3 = x.files_.length) (h4 : l.n4 ≤ x.trace_.length + 1) : 1 + cntCn l sh ≤ 16777000 := by
  have h1 := cnt_sum1 hf l.n3 (by omega)
  unfold szCn1 szSt szFl at h
  unfold cntCn
  rw [h3] at h1 ⊢
  omega
theorem wrR_cnt {x X : Cn} {s t : ByteArray} {K : Int} {sh : Nat → FlLay} {l : CnLay} (h : WrR x s t K X) (hz : (szCn1 x : Int) ≤ 1048576) (hf : ∀ (j : Nat) (y : Fl), X.files_[j]? = some y → (sh j).n1 = y.lines_.length) (h0 : l.n0 = X.input_.length) (h2 : l.n2 = X.output_.length) (h3 : l.n3 = X.files_.length) (h4 : l.n4 = X.trace_.length) : 1 + cntCn l sh ≤ 16777000 := by
  have key : X = zC ∨ ∃ (m : Nat) (y : Fl), x.files_[m]? = some y ∧ X = { x with files_ := x.files_.set m (wrF t y).1 } := by
    rcases h with ⟨_, _, rfl⟩ | ⟨_, h⟩
    · exact .inl rfl
    rcases h with ⟨_, _, rfl⟩ | ⟨_, _, m, _, ⟨_, _, rfl⟩ | ⟨y, hy, _, ⟨_, _, rfl⟩ | ⟨_, ⟨_, _, rfl⟩ | ⟨_, _, rfl⟩⟩⟩⟩
    · exact .inl rfl
    · exact .inl rfl
    · exact .inl rfl
    · exact .inr ⟨m, y, hy, rfl⟩
    · exact .inl rfl
  rcases key with rfl | ⟨m, y, hy, rfl⟩
  · unfold cntCn
    rw [h0, h2, h3, h4]
    show 1 + (0 + 0 + cntFl sh 0 + 0) ≤ _
    rw [cntFl]
    omega
  · refine cnt_small1 hz (fun j z hj => ?_) (by rw [h0]; exact Nat.le_succ _) (by rw [h2]; exact Nat.le_succ _) (by rw [h3, List.length_set]) (by rw [h4]; exact Nat.le_succ _)
    by_cases e : j = m
    · subst e
      rw [hy] at hj
      cases hj
      have h1 := hf j (wrF t y).1 (List.getElem?_set_self (List.getElem?_eq_some_iff.1 hy).1)
      rw [h1]
      unfold wrF
      split
      · exact Nat.le_succ _
      · simp
    · exact Nat.le_succ_of_le (Nat.le_of_eq (hf j z (by show (x.files_.set m _)[j]? = _; rw [List.getElem?_set_ne (fun h => e h.symm)]; exact hj)))

set_option maxHeartbeats 8000000 in
set_option maxRecDepth 100000 in
theorem walk_FnExactWriteFile (x : Cn) (l : CnLay) (s : ByteArray) (hs : s.size ≤ maxLen) (t : ByteArray) (ht : t.size ≤ maxLen) (W : World) (ha : CnV W W.heap.size x l) (hL : laidMetH Tryd.prog Rows.fnExactWriteFileRow.laid W) :
    Calls Tryd.prog 5 #[x.ag l, .string s, .string t] W fun e w' => e = .returned (.bool true) ∧ Below W.heap.size W w' := by
  have h1 : laidMet Tryd.prog [("loop.example/g00873/impl.byteClasses", Rows.laid_loop_example_g00873_impl_byteClasses)] W := hL
  have hT : Classes W := Lib.tabIs_of_head (rest := []) gClasses (by kernel_rfl) Tryd.underlying101 Tryd.underlying5 (by kernel_rfl) (by kernel_rfl) h1
  have HT := Lib.hid (fun (w : World) (hb : Below W.heap.size W w) => classes_go hT hb)
  clear hL h1 hT
  obtain ⟨K, X, hU⟩ := WrR.ex x s t
  have HA := Lib.hid ha
  by_cases cz0 : (s.size : Int) ≤ 1048576
  rotate_left
  · have d0 : decide (1048576 < (s.size : Int)) = true := by simp; omega
    unfold maxLen at hs ht
    obtain ⟨x0, x1, x2, x3, x4⟩ := x
    obtain ⟨A0, n0, c0, h0, A2, n2, c2, h2, A3, n3, c3, h3, A4, n4, c4, h4⟩ := l
    show Calls Tryd.prog 5 #[.agg #[.slice A0 n0 c0, .int .i64 x1, .slice A2 n2 c2, .slice A3 n3 c3, .slice A4 n4 c4], .string s, .string t] W _
    clear ha hU HA
    go_enter Tryd.func5, Tryd.ntmps5
    go_wp2_with fail
    go_ret
    exact ⟨rfl, below_alloc _ _⟩
  have d0 : decide (1048576 < (s.size : Int)) = false := by simp; omega
  by_cases czt : (t.size : Int) ≤ 1048576
  rotate_left
  · have dt : decide (1048576 < (t.size : Int)) = true := by simp; omega
    unfold maxLen at hs ht
    obtain ⟨x0, x1, x2, x3, x4⟩ := x
    obtain ⟨A0, n0, c0, h0, A2, n2, c2, h2, A3, n3, c3, h3, A4, n4, c4, h4⟩ := l
    show Calls Tryd.prog 5 #[.agg #[.slice A0 n0 c0, .int .i64 x1, .slice A2 n2 c2, .slice A3 n3 c3, .slice A4 n4 c4], .string s, .string t] W _
    clear cz0 ha hU HA
    go_enter Tryd.func5, Tryd.ntmps5
    go_wp2_with fail
    go_ret
    exact ⟨rfl, below_alloc _ _⟩
  have dt : decide (1048576 < (t.size : Int)) = false := by simp; omega
  have ht2 : t.size ≤ 1048576 := by omega
  by_cases cz1 : (szCn1 x : Int) ≤ 1048576
  rotate_left
  · have C1 := Lib.hid cz1
    have HZS := Lib.hid (fun (w : World) (hb : Below W.heap.size W w) => szConsole_any x l 1048576 w (HA.out.go hb) (by decide) (by decide))
    unfold maxLen at hs ht
    obtain ⟨x0, x1, x2, x3, x4⟩ := x
    obtain ⟨A0, n0, c0, h0, A2, n2, c2, h2, A3, n3, c3, h3, A4, n4, c4, h4⟩ := l
    have HC := Lib.hid (fun X (e : X = W.alloc (.cells #[.slice A0 n0 c0, .int .i64 x1, .slice A2 n2 c2, .slice A3 n3 c3, .slice A4 n4 c4] 25)) => one_new1 W 25 #[.slice A0 n0 c0, .int .i64 x1, .slice A2 n2 c2, .slice A3 n3 c3, .slice A4 n4 c4] X e)
    clear cz0 czt cz1 ha hU HA
    show Calls Tryd.prog 5 #[.agg #[.slice A0 n0 c0, .int .i64 x1, .slice A2 n2 c2, .slice A3 n3 c3, .slice A4 n4 c4], .string s, .string t] W _
    go_enter Tryd.func5, Tryd.ntmps5
    go_wp2_with (go_at_call 9; obtain ⟨g0, g1, g2⟩ := HC.out _ rfl; refine Calls.mono (HZS.out _ g1) ?_; intro e w1 h; obtain ⟨rfl, hb⟩ := h.long C1.out; have HB1 := Lib.hid (g1.trans (hb.mono g1.size)); clear g0 g1 g2 h hb HC)
    go_ret
    exact ⟨rfl, HB1.out⟩
  have C1 := Lib.hid cz1
  have hsm := small_Cn1 cz1
  have hn : l.n0 ≤ 1048576 ∧ l.n2 ≤ 1048576 ∧ l.n4 ≤ 1048576 ∧ l.n3 ≤ 1048576 := by
    have e0 := ha.1.1; have e2 := ha.2.1.1; have e3 := ha.2.2.1.1; have e4 := ha.2.2.2.1
    have k0 := hsm.1; have k2 := hsm.2.1; have k3 := hsm.2.2.1.2; have k4 := hsm.2.2.2
    exact ⟨by omega, by omega, by omega, by omega⟩
  have hlen : ∀ {w : World} {lm : CnLay}, CnV w w.heap.size x lm → lm.n0 ≤ 1048576 ∧ lm.n2 ≤ 1048576 ∧ lm.n4 ≤ 1048576 ∧ lm.n3 ≤ 1048576 := fun {w lm} h => by
    have e0 := h.1.1; have e2 := h.2.1.1; have e3 := h.2.2.1.1; have e4 := h.2.2.2.1
    have k0 := hsm.1; have k2 := hsm.2.1; have k3 := hsm.2.2.1.2; have k4 := hsm.2.2.2
    exact ⟨by omega, by omega, by omega, by omega⟩
  have TA := Lib.hid (fun (w : World) (hb : Below W.heap.size W w) => toConsole_any x l w (ha.go hb) hsm)
  have TO := Lib.hid (fun (w : World) (hb : Below W.heap.size W w) => toConsole_own x l w (ha.go hb) hsm)
  have HZS := Lib.hid (fun (w : World) (hb : Below W.heap.size W w) => szConsole_any x l 1048576 w (ha.go hb) (by decide) (by decide))
  have HSP := Lib.hid (fun (w : World) (lm : CnLay) (h : CnV w w.heap.size x lm) => spec_WriteFile_any x lm s t K X w h (hlen h).1 (hlen h).2.1 (hlen h).2.2.1 (hlen h).2.2.2 (fun j y hy => hsm.2.2.1.1 j y hy) hs ht2 hU)
  have HIM := Lib.hid (fun (w : World) (lm : CnLay) (h : CnV w w.heap.size x lm) (hT : Classes w) => impl_WriteFile_any x lm s t K X w h hT (hlen h).1 (hlen h).2.1 (hlen h).2.2.1 (hlen h).2.2.2 (fun j y hy => hsm.2.2.1.1 j y hy) hs ht2 hU)
  have HCX := Lib.hid (fun (sh : Nat → FlLay) (l : CnLay) (hf : ∀ (j : Nat) (y : Fl), X.files_[j]? = some y → (sh j).n1 = y.lines_.length) (h0 : l.n0 = X.input_.length) (h2 : l.n2 = X.output_.length) (h3 : l.n3 = X.files_.length) (h4 : l.n4 = X.trace_.length) => wrR_cnt hU cz1 hf h0 h2 h3 h4)
  have HCS := Lib.hid (fun (sh : Nat → FlLay) (l : CnLay) (hf : ∀ (j : Nat) (y : Fl), x.files_[j]? = some y → (sh j).n1 = y.lines_.length) (h0 : l.n0 ≤ x.input_.length + 1) (h2 : l.n2 ≤ x.output_.length + 1) (h3 : l.n3 = x.files_.length) (h4 : l.n4 ≤ x.trace_.length + 1) => cnt_small cz1 hf h0 h2 h3 h4)
  have hsz : s.size ≤ 1048576 := by omega
  obtain ⟨x0, x1, x2, x3, x4⟩ := x
  obtain ⟨A0, n0, c0, h0, A2, n2, c2, h2, A3, n3, c3, h3, A4, n4, c4, h4⟩ := l
  obtain ⟨z0, z1, z2, z3, z4⟩ := X
  have HC := Lib.hid (fun X (e : X = W.alloc (.cells #[.slice A0 n0 c0, .int .i64 x1, .slice A2 n2 c2, .slice A3 n3 c3, .slice A4 n4 c4] 25)) => one_new1 W 25 #[.slice A0 n0 c0, .int .i64 x1, .slice A2 n2 c2, .slice A3 n3 c3, .slice A4 n4 c4] X e)
  clear cz0 czt cz1 ha hsm hn hlen hU HA hs ht ht2
  have tkT1 : True := trivial
  have tkT2 : True := trivial
  have tkE1 : True := trivial
  have tkI1 : True := trivial
  show Calls Tryd.prog 5 #[.agg #[.slice A0 n0 c0, .int .i64 x1, .slice A2 n2 c2, .slice A3 n3 c3, .slice A4 n4 c4], .string s, .string t] W _
  go_enter Tryd.func5, Tryd.ntmps5
  go_wp2_with (first
    | (go_at_call 9; obtain ⟨g0, g1, g2⟩ := HC.out _ rfl; refine Calls.mono (HZS.out _ g1) ?_; intro e w1 h; obtain ⟨v1, rfl, hv1, l1, u1, hb⟩ := h.fits C1.out (by decide); have dz : decide (v1 < 0) = false := (by simp; omega); have HB1 := Lib.hid (g1.trans (hb.mono g1.size)); have HR1 := Lib.hid (g0.below hb g0.lt); have p0 := HR1.out.cell 0; have p1 := HR1.out.cell 1; have p2 := HR1.out.cell 2; have p3 := HR1.out.cell 3; have p4 := HR1.out.cell 4; clear g0 g1 g2 h hb hv1 HC HZS)
    | (go_at_call 11; have tk := tkT1; refine Calls.mono (TA.out _ HB1.out) ?_; rintro e w2 ⟨⟨A0m, n0m, c0m, h0m, A2m, n2m, c2m, h2m, A3m, n3m, c3m, h3m, A4m, n4m, c4m, h4m⟩, he, h⟩; obtain rfl : e = .returned (.agg #[.slice A0m n0m c0m, .int .i64 x1, .slice A2m n2m c2m, .slice A3m n3m c3m, .slice A4m n4m c4m]) := he; obtain ⟨hv, hb, hq⟩ := h.out; clear hq; have HV2 := Lib.hid hv; have HB2 := Lib.hid (HB1.out.trans (hb.mono HB1.out.size)); have HR2 := Lib.hid (HR1.out.below hb HR1.out.lt); clear h hv hb tk tkT1 p0 p1 p2 p3 p4)
    | (go_at_call 18; refine Calls.mono (HSP.out w2 ⟨A0m, n0m, c0m, h0m, A2m, n2m, c2m, h2m, A3m, n3m, c3m, h3m, A4m, n4m, c4m, h4m⟩ HV2.out) ?_; rintro e w3 ⟨⟨A0w, n0w, c0w, h0w, A2w, n2w, c2w, h2w, A3w, n3w, c3w, h3w, A4w, n4w, c4w, h4w⟩, zsw, he, h⟩; obtain rfl : e = .returned (.tuple #[.agg #[.slice A0w n0w c0w, .int .i64 z1, .slice A2w n2w c2w, .slice A3w n3w c3w, .slice A4w n4w c4w], .int .i64 K]) := he; obtain ⟨ho, hb⟩ := h.out; have HV3 := Lib.hid (own_facts ho).1; have HB3 := Lib.hid (HB2.out.trans (hb.mono HB2.out.size)); have HR3 := Lib.hid (HR2.out.below hb HR2.out.lt); have p0 : ∀ o, (w3.alloc o).cell? ⟨W.heap.size, 0, none⟩ = some (.slice A0 n0 c0) := (fun o => (HR3.out.alloc o).cell 0); have p1 : ∀ o, (w3.alloc o).cell? ⟨W.heap.size, 1, none⟩ = some (.int .i64 x1) := (fun o => (HR3.out.alloc o).cell 1); have p2 : ∀ o, (w3.alloc o).cell? ⟨W.heap.size, 2, none⟩ = some (.slice A2 n2 c2) := (fun o => (HR3.out.alloc o).cell 2); have p3 : ∀ o, (w3.alloc o).cell? ⟨W.heap.size, 3, none⟩ = some (.slice A3 n3 c3) := (fun o => (HR3.out.alloc o).cell 3); have p4 : ∀ o, (w3.alloc o).cell? ⟨W.heap.size, 4, none⟩ = some (.slice A4 n4 c4) := (fun o => (HR3.out.alloc o).cell 4); clear h ho hb HV2 HB2 HR2 HR1 HB1)
    | (go_at_call 11; have tk := tkT2; obtain ⟨U, hUU⟩ : ∃ U, w3.alloc (.cells #[.slice A0w n0w c0w, .int .i64 z1, .slice A2w n2w c2w, .slice A3w n3w c3w, .slice A4w n4w c4w] 29) = U := ⟨_, rfl⟩; rw [hUU]; have hk := below_alloc w3 (.cells #[.slice A0w n0w c0w, .int .i64 z1, .slice A2w n2w c2w, .slice A3w n3w c3w, .slice A4w n4w c4w] 29); rw [hUU] at hk; have HBU : Hid (Below W.heap.size W U) := HB3.out.trans (hk.mono HB3.out.size); have HLU : Hid (RW 25 U W.heap.size #[.slice A0 n0 c0, .int .i64 x1, .slice A2 n2 c2, .slice A3 n3 c3, .slice A4 n4 c4]) := HR3.out.below hk HR3.out.lt; have HWU : Hid (RW 29 U w3.heap.size #[.slice A0w n0w c0w, .int .i64 z1, .slice A2w n2w c2w, .slice A3w n3w c3w, .slice A4w n4w c4w] ∧ CnV U U.heap.size ⟨z0, z1, z2, z3, z4⟩ ⟨A0w, n0w, c0w, h0w, A2w, n2w, c2w, h2w, A3w, n3w, c3w, h3w, A4w, n4w, c4w, h4w⟩) := (by rw [← hUU]; exact ⟨RW.new _ _ _, HV3.out.alloc _⟩); refine Calls.mono (TO.out _ HBU.out) ?_; rintro e w4 ⟨⟨A0q, n0q, c0q, h0q, A2q, n2q, c2q, h2q, A3q, n3q, c3q, h3q, A4q, n4q, c4q, h4q⟩, he, h⟩; obtain rfl : e = .returned (.agg #[.slice A0q n0q c0q, .int .i64 x1, .slice A2q n2q c2q, .slice A3q n3q c3q, .slice A4q n4q c4q]) := he; obtain ⟨hd, hb, hA⟩ := h.out; have HX4 : Hid (CnVO w4 w4.heap.size ⟨x0, x1, x2, x3, x4⟩ ⟨A0q, n0q, c0q, h0q, A2q, n2q, c2q, h2q, A3q, n3q, c3q, h3q, A4q, n4q, c4q, h4q⟩) := hd.self; have HA4 := Lib.hid hA; have HB4 := Lib.hid hb; clear h hd hb hA hUU hk tk tkT2 HV3 HB3 HR3 p0 p1 p2 p3 p4)
    | (go_at_call 19; have tk := tkI1; obtain ⟨V, hVV⟩ : ∃ V, w4.alloc (.cells #[.slice A0q n0q c0q, .int .i64 x1, .slice A2q n2q c2q, .slice A3q n3q c3q, .slice A4q n4q c4q] 29) = V := ⟨_, rfl⟩; rw [hVV]; have hk := below_alloc w4 (.cells #[.slice A0q n0q c0q, .int .i64 x1, .slice A2q n2q c2q, .slice A3q n3q c3q, .slice A4q n4q c4q] 29); rw [hVV] at hk; have HBV : Hid (Below U.heap.size U V) := HB4.out.trans (hk.mono HB4.out.size); have HXV : Hid (RW 29 V w4.heap.size #[.slice A0q n0q c0q, .int .i64 x1, .slice A2q n2q c2q, .slice A3q n3q c3q, .slice A4q n4q c4q] ∧ CnVO V w4.heap.size ⟨x0, x1, x2, x3, x4⟩ ⟨A0q, n0q, c0q, h0q, A2q, n2q, c2q, h2q, A3q, n3q, c3q, h3q, A4q, n4q, c4q, h4q⟩) := (by rw [← hVV]; exact ⟨RW.new _ _ _, HX4.out.below (below_alloc _ _)⟩); have HSV : Hid (V.heap.size = w4.heap.size + 1) := (by show _ = _; rw [← hVV]; simp); refine Calls.mono (HIM.out V ⟨A0q, n0q, c0q, h0q, A2q, n2q, c2q, h2q, A3q, n3q, c3q, h3q, A4q, n4q, c4q, h4q⟩ (HXV.out.2.toV.more (Nat.le_of_lt HXV.out.1.lt)) (HT.out _ (HBU.out.trans (HBV.out.mono HBU.out.size)))) ?_; rintro e w5 ⟨⟨A0g, n0g, c0g, h0g, A2g, n2g, c2g, h2g, A3g, n3g, c3g, h3g, A4g, n4g, c4g, h4g⟩, zsg, he, h⟩; obtain rfl : e = .returned (.tuple #[.agg #[.slice A0g n0g c0g, .int .i64 z1, .slice A2g n2g c2g, .slice A3g n3g c3g, .slice A4g n4g c4g], .int .i64 K]) := he; obtain ⟨ho, hb⟩ := h.out; have HO5 := Lib.hid ho; have HB5 := Lib.hid hb; have HW5 := Lib.hid ((HWU.out.1.below HBV.out HWU.out.1.lt).below hb (Nat.lt_of_lt_of_le HWU.out.1.lt HBV.out.size)); have p0 : ∀ o, (w5.alloc o).cell? ⟨w3.heap.size, 0, none⟩ = some (.slice A0w n0w c0w) := (fun o => (HW5.out.alloc o).cell 0); have p1 : ∀ o, (w5.alloc o).cell? ⟨w3.heap.size, 1, none⟩ = some (.int .i64 z1) := (fun o => (HW5.out.alloc o).cell 1); have p2 : ∀ o, (w5.alloc o).cell? ⟨w3.heap.size, 2, none⟩ = some (.slice A2w n2w c2w) := (fun o => (HW5.out.alloc o).cell 2); have p3 : ∀ o, (w5.alloc o).cell? ⟨w3.heap.size, 3, none⟩ = some (.slice A3w n3w c3w) := (fun o => (HW5.out.alloc o).cell 3); have p4 : ∀ o, (w5.alloc o).cell? ⟨w3.heap.size, 4, none⟩ = some (.slice A4w n4w c4w) := (fun o => (HW5.out.alloc o).cell 4); clear h ho hb hVV hk tk tkI1 HX4 HB4)
    | (go_at_call 13; have tk := tkE1; obtain ⟨D, hDD⟩ : ∃ D, w5.alloc (.cells #[.slice A0g n0g c0g, .int .i64 z1, .slice A2g n2g c2g, .slice A3g n3g c3g, .slice A4g n4g c4g] 29) = D := ⟨_, rfl⟩; rw [hDD]; have hk := below_alloc w5 (.cells #[.slice A0g n0g c0g, .int .i64 z1, .slice A2g n2g c2g, .slice A3g n3g c3g, .slice A4g n4g c4g] 29); rw [hDD] at hk; have hG : RW 29 D w5.heap.size #[.slice A0g n0g c0g, .int .i64 z1, .slice A2g n2g c2g, .slice A3g n3g c3g, .slice A4g n4g c4g] ∧ OwnCn V.heap.size D ⟨z0, z1, z2, z3, z4⟩ ⟨A0g, n0g, c0g, h0g, A2g, n2g, c2g, h2g, A3g, n3g, c3g, h3g, A4g, n4g, c4g, h4g⟩ zsg := (by rw [← hDD]; exact ⟨RW.new _ _ _, HO5.out.keep (below_alloc _ _)⟩); have hBD : Below V.heap.size V D := HB5.out.trans (hk.mono HB5.out.size); have hUD : Below U.heap.size U D := HBV.out.trans (hBD.mono HBV.out.size); refine Calls.mono (eqConsole_same ⟨z0, z1, z2, z3, z4⟩ ⟨A0g, n0g, c0g, h0g, A2g, n2g, c2g, h2g, A3g, n3g, c3g, h3g, A4g, n4g, c4g, h4g⟩ ⟨A0w, n0w, c0w, h0w, A2w, n2w, c2w, h2w, A3w, n3w, c3w, h3w, A4w, n4w, c4w, h4w⟩ D (own_facts hG.2).1 (HWU.out.2.go hUD)) ?_; rintro e w7 ⟨rfl, hb⟩; have HG7 : Hid (RW 29 w7 w5.heap.size #[.slice A0g n0g c0g, .int .i64 z1, .slice A2g n2g c2g, .slice A3g n3g c3g, .slice A4g n4g c4g] ∧ OwnCn V.heap.size w7 ⟨z0, z1, z2, z3, z4⟩ ⟨A0g, n0g, c0g, h0g, A2g, n2g, c2g, h2g, A3g, n3g, c3g, h3g, A4g, n4g, c4g, h4g⟩ zsg) := ⟨hG.1.below hb hG.1.lt, hG.2.keep hb⟩; have HV7 : Hid (Below V.heap.size V w7) := hBD.trans (hb.mono hBD.size); have HGS : Hid (V.heap.size ≤ w5.heap.size) := HB5.out.size; clear hG hBD hUD hb hDD hk tk tkE1 HO5 HB5 HW5 p0 p1 p2 p3 p4))
  have H7 : Hid (Below V.heap.size V w7.drew) := HV7.out.drew
  have HX7 : Hid (RW 29 w7.drew w4.heap.size #[.slice A0q n0q c0q, .int .i64 x1, .slice A2q n2q c2q, .slice A3q n3q c3q, .slice A4q n4q c4q]) := HXV.out.1.below H7.out HXV.out.1.lt
  have HL7 : Hid (RW 25 w7.drew W.heap.size #[.slice A0 n0 c0, .int .i64 x1, .slice A2 n2 c2, .slice A3 n3 c3, .slice A4 n4 c4]) := (HLU.out.below HBV.out HLU.out.lt).below H7.out (Nat.lt_of_lt_of_le HLU.out.lt HBV.out.size)
  have S7 : Hid (w7.drew.cell? ⟨w4.heap.size, 0, none⟩ = some (.slice A0q n0q c0q) ∧ w7.drew.cell? ⟨w4.heap.size, 1, none⟩ = some (.int .i64 x1) ∧ w7.drew.cell? ⟨w4.heap.size, 2, none⟩ = some (.slice A2q n2q c2q) ∧ w7.drew.cell? ⟨w4.heap.size, 3, none⟩ = some (.slice A3q n3q c3q) ∧ w7.drew.cell? ⟨w4.heap.size, 4, none⟩ = some (.slice A4q n4q c4q) ∧ w7.drew.cell? ⟨W.heap.size, 0, none⟩ = some (.slice A0 n0 c0) ∧ w7.drew.cell? ⟨W.heap.size, 1, none⟩ = some (.int .i64 x1) ∧ w7.drew.cell? ⟨W.heap.size, 2, none⟩ = some (.slice A2 n2 c2) ∧ w7.drew.cell? ⟨W.heap.size, 3, none⟩ = some (.slice A3 n3 c3) ∧ w7.drew.cell? ⟨W.heap.size, 4, none⟩ = some (.slice A4 n4 c4)) := ⟨HX7.out.cell 0, HX7.out.cell 1, HX7.out.cell 2, HX7.out.cell 3, HX7.out.cell 4, HL7.out.cell 0, HL7.out.cell 1, HL7.out.cell 2, HL7.out.cell 3, HL7.out.cell 4⟩
  go_region_held3 (fun w => w.cell? ⟨w4.heap.size, 0, none⟩ = some (.slice A0q n0q c0q) ∧ w.cell? ⟨w4.heap.size, 1, none⟩ = some (.int .i64 x1) ∧ w.cell? ⟨w4.heap.size, 2, none⟩ = some (.slice A2q n2q c2q) ∧ w.cell? ⟨w4.heap.size, 3, none⟩ = some (.slice A3q n3q c3q) ∧ w.cell? ⟨w4.heap.size, 4, none⟩ = some (.slice A4q n4q c4q) ∧ w.cell? ⟨W.heap.size, 0, none⟩ = some (.slice A0 n0 c0) ∧ w.cell? ⟨W.heap.size, 1, none⟩ = some (.int .i64 x1) ∧ w.cell? ⟨W.heap.size, 2, none⟩ = some (.slice A2 n2 c2) ∧ w.cell? ⟨W.heap.size, 3, none⟩ = some (.slice A3 n3 c3) ∧ w.cell? ⟨W.heap.size, 4, none⟩ = some (.slice A4 n4 c4))
    (first | (with_reducible exact S7.out) | (with_reducible exact S8.out) | (with_reducible exact S9.out) | go_keep)
    ((first
      | (go_at_call 11; refine Calls.mono (TA.out _ (HBU.out.trans ((HBV.out.trans (H7.out.mono HBV.out.size)).mono HBU.out.size))) ?_; rintro e w8 ⟨⟨A0u, n0u, c0u, h0u, A2u, n2u, c2u, h2u, A3u, n3u, c3u, h3u, A4u, n4u, c4u, h4u⟩, he, h⟩; obtain rfl : e = .returned (.agg #[.slice A0u n0u c0u, .int .i64 x1, .slice A2u n2u c2u, .slice A3u n3u c3u, .slice A4u n4u c4u]) := he; obtain ⟨hv, hb, hq⟩ := h.out; clear hq; have HVU := Lib.hid hv; have H8 : Hid (Below V.heap.size V w8) := H7.out.trans (hb.mono H7.out.size); have HG8 : Hid (RW 29 w8 w5.heap.size #[.slice A0g n0g c0g, .int .i64 z1, .slice A2g n2g c2g, .slice A3g n3g c3g, .slice A4g n4g c4g] ∧ OwnCn V.heap.size w8 ⟨z0, z1, z2, z3, z4⟩ ⟨A0g, n0g, c0g, h0g, A2g, n2g, c2g, h2g, A3g, n3g, c3g, h3g, A4g, n4g, c4g, h4g⟩ zsg) := ⟨(rw_drew HG7.out.1).below hb (rw_drew HG7.out.1).lt, (own_drew HG7.out.2).keep hb⟩; have HX8 := Lib.hid (HX7.out.below hb HX7.out.lt); have HL8 := Lib.hid (HL7.out.below hb HL7.out.lt); have S8 : Hid (w8.cell? ⟨w4.heap.size, 0, none⟩ = some (.slice A0q n0q c0q) ∧ w8.cell? ⟨w4.heap.size, 1, none⟩ = some (.int .i64 x1) ∧ w8.cell? ⟨w4.heap.size, 2, none⟩ = some (.slice A2q n2q c2q) ∧ w8.cell? ⟨w4.heap.size, 3, none⟩ = some (.slice A3q n3q c3q) ∧ w8.cell? ⟨w4.heap.size, 4, none⟩ = some (.slice A4q n4q c4q) ∧ w8.cell? ⟨W.heap.size, 0, none⟩ = some (.slice A0 n0 c0) ∧ w8.cell? ⟨W.heap.size, 1, none⟩ = some (.int .i64 x1) ∧ w8.cell? ⟨W.heap.size, 2, none⟩ = some (.slice A2 n2 c2) ∧ w8.cell? ⟨W.heap.size, 3, none⟩ = some (.slice A3 n3 c3) ∧ w8.cell? ⟨W.heap.size, 4, none⟩ = some (.slice A4 n4 c4)) := ⟨HX8.out.cell 0, HX8.out.cell 1, HX8.out.cell 2, HX8.out.cell 3, HX8.out.cell 4, HL8.out.cell 0, HL8.out.cell 1, HL8.out.cell 2, HL8.out.cell 3, HL8.out.cell 4⟩; clear h hv hb)
      | (go_at_call 13; refine Calls.mono (eqConsole_same ⟨x0, x1, x2, x3, x4⟩ ⟨A0q, n0q, c0q, h0q, A2q, n2q, c2q, h2q, A3q, n3q, c3q, h3q, A4q, n4q, c4q, h4q⟩ ⟨A0u, n0u, c0u, h0u, A2u, n2u, c2u, h2u, A3u, n3u, c3u, h3u, A4u, n4u, c4u, h4u⟩ w8 ((HXV.out.2.toV.below (H8.out.mono (Nat.le_of_lt HXV.out.1.lt))).more (Nat.le_trans (Nat.le_of_lt HXV.out.1.lt) H8.out.size)) HVU.out) ?_; rintro e w9 ⟨rfl, hb⟩; have H9 : Hid (Below V.heap.size V w9) := H8.out.trans (hb.mono H8.out.size); have HG9 : Hid (RW 29 w9 w5.heap.size #[.slice A0g n0g c0g, .int .i64 z1, .slice A2g n2g c2g, .slice A3g n3g c3g, .slice A4g n4g c4g] ∧ OwnCn V.heap.size w9 ⟨z0, z1, z2, z3, z4⟩ ⟨A0g, n0g, c0g, h0g, A2g, n2g, c2g, h2g, A3g, n3g, c3g, h3g, A4g, n4g, c4g, h4g⟩ zsg) := ⟨HG8.out.1.below hb HG8.out.1.lt, HG8.out.2.keep hb⟩; have HX9 := Lib.hid (HX8.out.below hb HX8.out.lt); have HL9 := Lib.hid (HL8.out.below hb HL8.out.lt); have S9 : Hid (w9.cell? ⟨w4.heap.size, 0, none⟩ = some (.slice A0q n0q c0q) ∧ w9.cell? ⟨w4.heap.size, 1, none⟩ = some (.int .i64 x1) ∧ w9.cell? ⟨w4.heap.size, 2, none⟩ = some (.slice A2q n2q c2q) ∧ w9.cell? ⟨w4.heap.size, 3, none⟩ = some (.slice A3q n3q c3q) ∧ w9.cell? ⟨w4.heap.size, 4, none⟩ = some (.slice A4q n4q c4q) ∧ w9.cell? ⟨W.heap.size, 0, none⟩ = some (.slice A0 n0 c0) ∧ w9.cell? ⟨W.heap.size, 1, none⟩ = some (.int .i64 x1) ∧ w9.cell? ⟨W.heap.size, 2, none⟩ = some (.slice A2 n2 c2) ∧ w9.cell? ⟨W.heap.size, 3, none⟩ = some (.slice A3 n3 c3) ∧ w9.cell? ⟨W.heap.size, 4, none⟩ = some (.slice A4 n4 c4)) := ⟨HX9.out.cell 0, HX9.out.cell 1, HX9.out.cell 2, HX9.out.cell 3, HX9.out.cell 4, HL9.out.cell 0, HL9.out.cell 1, HL9.out.cell 2, HL9.out.cell 3, HL9.out.cell 4⟩; clear hb)))
  clear S7 S8 S9 H7 H8 HX7 HX8 HL7 HL8 HL9 HG7 HG8 HV7 HVU
  go_split_ands
  have tkM1 : True := trivial
  have tkM2 : True := trivial
  have tkE3 : True := trivial
  have tkE4 : True := trivial
  have tkH1 : True := trivial
  have tkH2 : True := trivial
  go_wp2_with (first
    | (go_at_call 14; have tk := tkM1; obtain ⟨shx, hM, hS, hf, h3⟩ := (HXV.out.2.below (H9.out.mono (Nat.le_of_lt HXV.out.1.lt))).toM HA4.out; have hx := HXV.out.2.toV; have hcnt := HCS.out shx ⟨A0q, n0q, c0q, h0q, A2q, n2q, c2q, h2q, A3q, n3q, c3q, h3q, A4q, n4q, c4q, h4q⟩ hf (Nat.le_succ_of_le (Nat.le_of_eq hx.1.1.symm)) (Nat.le_succ_of_le (Nat.le_of_eq hx.2.1.1.symm)) h3 (Nat.le_succ_of_le (Nat.le_of_eq hx.2.2.2.1.symm)); refine Calls.mono (markConsole_w ⟨x0, x1, x2, x3, x4⟩ ⟨A0q, n0q, c0q, h0q, A2q, n2q, c2q, h2q, A3q, n3q, c3q, h3q, A4q, n4q, c4q, h4q⟩ shx 1 w9 hM (by decide) hcnt) ?_; rintro e w10 ⟨rfl, hm⟩; have hU9 : Below U.heap.size U w9 := HBV.out.trans (H9.out.mono HBV.out.size); have HU10 : Hid (Below U.heap.size U w10) := hU9.trans (hm.below (fun j hj => (hS j hj).1) hU9.size); have HG10 : Hid (RW 29 w10 w5.heap.size #[.slice A0g n0g c0g, .int .i64 z1, .slice A2g n2g c2g, .slice A3g n3g c3g, .slice A4g n4g c4g] ∧ OwnCn V.heap.size w10 ⟨z0, z1, z2, z3, z4⟩ ⟨A0g, n0g, c0g, h0g, A2g, n2g, c2g, h2g, A3g, n3g, c3g, h3g, A4g, n4g, c4g, h4g⟩ zsg) := ⟨hm.row HG9.out.1 (fun hs => by have h1 := (hS _ hs).2; have h2 := HGS.out; have h4 := HSV.out; omega), HG9.out.2.low (fun b hb hlt => hm.2.2.2.2.1 b hlt (fun hs => by have h1 := (hS _ hs).2; have h4 := HSV.out; omega))⟩; obtain ⟨kx, hkx⟩ : ∃ kx, 1 + cntCn ⟨A0q, n0q, c0q, h0q, A2q, n2q, c2q, h2q, A3q, n3q, c3q, h3q, A4q, n4q, c4q, h4q⟩ shx = kx := ⟨_, rfl⟩; rw [hkx]; have dk : decide ((kx : Int) < 0) = false := decide_eq_false (by omega); have HW10 := Lib.hid (HWU.out.1.below HU10.out HWU.out.1.lt); have q0 := HG10.out.1.cell 0; have q1 := HG10.out.1.cell 1; have q2 := HG10.out.1.cell 2; have q3 := HG10.out.1.cell 3; have q4 := HG10.out.1.cell 4; have p0 := HW10.out.cell 0; have p1 := HW10.out.cell 1; have p2 := HW10.out.cell 2; have p3 := HW10.out.cell 3; have p4 := HW10.out.cell 4; clear hM hS hf h3 hx hcnt hm hU9 hkx tk tkM1 HG9 H9 HX9)
    | (go_at_call 13; have tk := tkE3; refine Calls.mono (eqConsole_same ⟨z0, z1, z2, z3, z4⟩ ⟨A0g, n0g, c0g, h0g, A2g, n2g, c2g, h2g, A3g, n3g, c3g, h3g, A4g, n4g, c4g, h4g⟩ ⟨A0w, n0w, c0w, h0w, A2w, n2w, c2w, h2w, A3w, n3w, c3w, h3w, A4w, n4w, c4w, h4w⟩ w10 (own_facts HG10.out.2).1 (HWU.out.2.go HU10.out)) ?_; rintro e w11 ⟨rfl, hb⟩; have HU11 : Hid (Below U.heap.size U w11) := HU10.out.trans (hb.mono HU10.out.size); have HG11 : Hid (RW 29 w11 w5.heap.size #[.slice A0g n0g c0g, .int .i64 z1, .slice A2g n2g c2g, .slice A3g n3g c3g, .slice A4g n4g c4g] ∧ OwnCn V.heap.size w11 ⟨z0, z1, z2, z3, z4⟩ ⟨A0g, n0g, c0g, h0g, A2g, n2g, c2g, h2g, A3g, n3g, c3g, h3g, A4g, n4g, c4g, h4g⟩ zsg) := ⟨HG10.out.1.below hb HG10.out.1.lt, HG10.out.2.keep hb⟩; have q0 := HG11.out.1.cell 0; have q1 := HG11.out.1.cell 1; have q2 := HG11.out.1.cell 2; have q3 := HG11.out.1.cell 3; have q4 := HG11.out.1.cell 4; clear hb tk tkE3 HG10 HU10 HW10 p0 p1 p2 p3 p4)
    | (go_at_call 14; have tk := tkM2; obtain ⟨hV, hM, hA, hS, hf, h3⟩ := own_facts (B := V.heap.size) (w := w11) (x := ⟨z0, z1, z2, z3, z4⟩) (l := ⟨A0g, n0g, c0g, h0g, A2g, n2g, c2g, h2g, A3g, n3g, c3g, h3g, A4g, n4g, c4g, h4g⟩) (zs := zsg) HG11.out.2; have ev0 : n0g = z0.length := hV.1.1.symm; have ev2 : n2g = z2.length := hV.2.1.1.symm; have ev4 : n4g = z4.length := hV.2.2.2.1.symm; have hcnt := HCX.out (shFl zsg) ⟨A0g, n0g, c0g, h0g, A2g, n2g, c2g, h2g, A3g, n3g, c3g, h3g, A4g, n4g, c4g, h4g⟩ hf ev0 ev2 h3 ev4; clear ev0 ev2 ev4; have HCN := Lib.hid hcnt; refine Calls.mono (markConsole_str ⟨z0, z1, z2, z3, z4⟩ ⟨A0g, n0g, c0g, h0g, A2g, n2g, c2g, h2g, A3g, n3g, c3g, h3g, A4g, n4g, c4g, h4g⟩ (shFl zsg) 1 w11 hM hA (by decide) hcnt) ?_; rintro e w12 ⟨rfl, hm, _, hH⟩; have HH12 := Lib.hid hH; have HU12 : Hid (Below U.heap.size U w12) := HU11.out.trans (hm.below (fun j hj => Nat.le_trans HBV.out.size (hS j hj).1) HU11.out.size); have HG12 : Hid (RW 29 w12 w5.heap.size #[.slice A0g n0g c0g, .int .i64 z1, .slice A2g n2g c2g, .slice A3g n3g c3g, .slice A4g n4g c4g]) := hm.row HG11.out.1 (own_not HG11.out.2 HG11.out.1); have q0 := HG12.out.cell 0; have q1 := HG12.out.cell 1; have q2 := HG12.out.cell 2; have q3 := HG12.out.cell 3; have q4 := HG12.out.cell 4; obtain ⟨kg, hkg⟩ : ∃ kg, 1 + cntCn ⟨A0g, n0g, c0g, h0g, A2g, n2g, c2g, h2g, A3g, n3g, c3g, h3g, A4g, n4g, c4g, h4g⟩ (shFl zsg) = kg := ⟨_, rfl⟩; rw [hkg]; have HKG := Lib.hid hkg; have dg : decide ((kg : Int) < 0) = false := decide_eq_false (by omega); have dg2 : ¬ (kg : Int) < 0 := (by omega); clear hV hM hA hS hf h3 hcnt hm hH hkg tk tkM2 HG11 HU11)
    | (go_at_call 15; have tk := tkH1; have hh := heldConsole_own ⟨z0, z1, z2, z3, z4⟩ ⟨A0g, n0g, c0g, h0g, A2g, n2g, c2g, h2g, A3g, n3g, c3g, h3g, A4g, n4g, c4g, h4g⟩ (shFl zsg) 1 w12 HH12.out (by decide) HCN.out; rw [HKG.out] at hh; refine Calls.mono hh ?_; clear hh; rintro e w13 ⟨rfl, hb⟩; have HH13 := Lib.hid (HH12.out.below hb); have HU13 : Hid (Below U.heap.size U w13) := HU12.out.trans (hb.mono HU12.out.size); have HG13 := Lib.hid (HG12.out.below hb HG12.out.lt); have HL13 := Lib.hid (HLU.out.below HU13.out HLU.out.lt); have p0 := HL13.out.cell 0; have p1 := HL13.out.cell 1; have p2 := HL13.out.cell 2; have p3 := HL13.out.cell 3; have p4 := HL13.out.cell 4; clear hb tk tkH1 HH12 HU12 HG12 q0 q1 q2 q3 q4)
    | (go_at_call 11; refine Calls.mono (TA.out _ (HBU.out.trans (HU13.out.mono HBU.out.size))) ?_; rintro e w14 ⟨⟨A0v, n0v, c0v, h0v, A2v, n2v, c2v, h2v, A3v, n3v, c3v, h3v, A4v, n4v, c4v, h4v⟩, he, h⟩; obtain rfl : e = .returned (.agg #[.slice A0v n0v c0v, .int .i64 x1, .slice A2v n2v c2v, .slice A3v n3v c3v, .slice A4v n4v c4v]) := he; obtain ⟨hv, hb, hq⟩ := h.out; clear hq; have HV14 := Lib.hid hv; have HU14 : Hid (Below U.heap.size U w14) := HU13.out.trans (hb.mono HU13.out.size); have HH14 := Lib.hid (HH13.out.below hb); have HG14 := Lib.hid (HG13.out.below hb HG13.out.lt); clear h hv hb HH13 HU13 HG13 HL13 p0 p1 p2 p3 p4)
    | (go_at_call 19; refine Calls.mono (HIM.out w14 ⟨A0v, n0v, c0v, h0v, A2v, n2v, c2v, h2v, A3v, n3v, c3v, h3v, A4v, n4v, c4v, h4v⟩ HV14.out (HT.out _ (HBU.out.trans (HU14.out.mono HBU.out.size)))) ?_; rintro e w15 ⟨⟨A0h, n0h, c0h, h0h, A2h, n2h, c2h, h2h, A3h, n3h, c3h, h3h, A4h, n4h, c4h, h4h⟩, zsh, he, h⟩; obtain rfl : e = .returned (.tuple #[.agg #[.slice A0h n0h c0h, .int .i64 z1, .slice A2h n2h c2h, .slice A3h n3h c3h, .slice A4h n4h c4h], .int .i64 K]) := he; obtain ⟨ho, hb⟩ := h.out; have HV15 := Lib.hid (own_facts ho).1; have HU15 : Hid (Below U.heap.size U w15) := HU14.out.trans (hb.mono HU14.out.size); have HH15 := Lib.hid (HH14.out.below hb); have HG15 := Lib.hid (HG14.out.below hb HG14.out.lt); have HW15 := Lib.hid (HWU.out.1.below HU15.out HWU.out.1.lt); have p0 : ∀ o, (w15.alloc o).cell? ⟨w3.heap.size, 0, none⟩ = some (.slice A0w n0w c0w) := (fun o => (HW15.out.alloc o).cell 0); have p1 : ∀ o, (w15.alloc o).cell? ⟨w3.heap.size, 1, none⟩ = some (.int .i64 z1) := (fun o => (HW15.out.alloc o).cell 1); have p2 : ∀ o, (w15.alloc o).cell? ⟨w3.heap.size, 2, none⟩ = some (.slice A2w n2w c2w) := (fun o => (HW15.out.alloc o).cell 2); have p3 : ∀ o, (w15.alloc o).cell? ⟨w3.heap.size, 3, none⟩ = some (.slice A3w n3w c3w) := (fun o => (HW15.out.alloc o).cell 3); have p4 : ∀ o, (w15.alloc o).cell? ⟨w3.heap.size, 4, none⟩ = some (.slice A4w n4w c4w) := (fun o => (HW15.out.alloc o).cell 4); clear h ho hb HV14 HH14 HU14 HG14)
    | (go_at_call 13; have tk := tkE4; obtain ⟨D, hDD⟩ : ∃ D, w15.alloc (.cells #[.slice A0h n0h c0h, .int .i64 z1, .slice A2h n2h c2h, .slice A3h n3h c3h, .slice A4h n4h c4h] 29) = D := ⟨_, rfl⟩; rw [hDD]; have hk := below_alloc w15 (.cells #[.slice A0h n0h c0h, .int .i64 z1, .slice A2h n2h c2h, .slice A3h n3h c3h, .slice A4h n4h c4h] 29); rw [hDD] at hk; have hVD : CnV D D.heap.size ⟨z0, z1, z2, z3, z4⟩ ⟨A0h, n0h, c0h, h0h, A2h, n2h, c2h, h2h, A3h, n3h, c3h, h3h, A4h, n4h, c4h, h4h⟩ := HV15.out.go hk; have hUD : Below U.heap.size U D := HU15.out.trans (hk.mono HU15.out.size); refine Calls.mono (eqConsole_same ⟨z0, z1, z2, z3, z4⟩ ⟨A0h, n0h, c0h, h0h, A2h, n2h, c2h, h2h, A3h, n3h, c3h, h3h, A4h, n4h, c4h, h4h⟩ ⟨A0w, n0w, c0w, h0w, A2w, n2w, c2w, h2w, A3w, n3w, c3w, h3w, A4w, n4w, c4w, h4w⟩ D hVD (HWU.out.2.go hUD)) ?_; rintro e w16 ⟨rfl, hb⟩; have HU16 : Hid (Below U.heap.size U w16) := hUD.trans (hb.mono hUD.size); have hb2 := hk.trans (hb.mono hk.size); have HH16 := Lib.hid (HH15.out.below hb2); have HG16 := Lib.hid (HG15.out.below hb2 HG15.out.lt); have q0 := HG16.out.cell 0; have q1 := HG16.out.cell 1; have q2 := HG16.out.cell 2; have q3 := HG16.out.cell 3; have q4 := HG16.out.cell 4; clear hVD hUD hb hb2 hDD hk tk tkE4 HV15 HU15 HH15 HG15 HW15 p0 p1 p2 p3 p4)
    | (go_at_call 15; have tk := tkH2; have hh := heldConsole_own ⟨z0, z1, z2, z3, z4⟩ ⟨A0g, n0g, c0g, h0g, A2g, n2g, c2g, h2g, A3g, n3g, c3g, h3g, A4g, n4g, c4g, h4g⟩ (shFl zsg) 1 w16 HH16.out (by decide) HCN.out; rw [HKG.out] at hh; refine Calls.mono hh ?_; clear hh; rintro e w17 ⟨rfl, hb⟩; have HU17 : Hid (Below U.heap.size U w17) := HU16.out.trans (hb.mono HU16.out.size); clear hb tk tkH2 HH16 HU16 HG16 q0 q1 q2 q3 q4))
  go_ret
  exact ⟨rfl, HBU.out.trans (HU17.out.mono HBU.out.size)⟩
end Go.Proofs.YtlohjmlenbkbmaaDoor

namespace Go.Proofs.YtlohjmlenbkbmaaDoor.fnExactWriteFile
open Go.ChangeShapes Go.WideShapes Go.ChangeAt Go.RowKit
open Go.ChangeMaps (open_string shut_string)

theorem own : ownKnob Tryd.prog.godebug = none := by kernel_rfl
theorem laidOut : laidOutB Tryd.prog = true := by kernel_rfl

set_option maxRecDepth 100000 in
theorem contract (H : Type) (enc : TypeId × Value → H) (W : World) (base : Nat) (args : Array Value) (ds gs : List (DataW H)) (before : List MemPlace)
    (hval : ∀ (j : Nat) t v, Tryd.f5.params[j]? = some t → args[j]? = some v → Value.okWide Tryd.prog W .any base t v)
    (hW : DataW.Whole enc Tryd.prog Tryd.f5.params.toList Rows.fnExactWriteFileSpec.vars false W args.toList ds gs before) (hL : laidMetH Tryd.prog Rows.fnExactWriteFileRow.laid W) :
    Calls Tryd.prog 5 args W fun e W' => ∃ v, e = .returned v ∧ Rows.fnExactWriteFileSpec.post enc Tryd.prog Tryd.f5 false true false false W args v W' := by
  have hW' := hW
  obtain ⟨p, q, hA0, hV, rfl, hfz, hnd⟩ := hW
  have hA : DataW.TrodAll enc Tryd.prog W 0 (fun _ => true) true Tryd.f5.params.toList args.toList ds p := hA0
  rw [Tryd.params5] at hA hval
  obtain ⟨v0, vs0, d0, ds0, p0, q0, hargs0, rfl, rfl, h0, r0⟩ := trodAll_cons hA
  obtain ⟨v1, vs1, d1, ds1, p1, q1, hargs1, rfl, rfl, h1, r1⟩ := trodAll_cons r0
  obtain ⟨v2, vs2, d2, ds2, p2, q2, hargs2, rfl, rfl, h2, r2⟩ := trodAll_cons r1
  obtain ⟨rfl, rfl, rfl⟩ := trodAll_nil r2
  obtain rfl : args = #[v0, v1, v2] := by cases args; simp_all
  have k0 := h0
  have lt0 : ∀ x ∈ p0, x.block < W.heap.size := by obtain ⟨m, hm⟩ := k0; exact DataW.trod_lt m _ _ _ hm
  obtain ⟨x0, l0, rfl, ho0⟩ := open_Cn (hval 0 25 v0 rfl rfl) h0
  have k1 := h1
  have lt1 : ∀ x ∈ p1, x.block < W.heap.size := by obtain ⟨m, hm⟩ := k1; exact DataW.trod_lt m _ _ _ hm
  obtain ⟨a1, rfl, rfl, rfl, w1⟩ := open_string Tryd.underlying9 (hval 1 9 v1 rfl rfl) h1
  have k2 := h2
  have lt2 : ∀ x ∈ p2, x.block < W.heap.size := by obtain ⟨m, hm⟩ := k2; exact DataW.trod_lt m _ _ _ hm
  obtain ⟨a2, rfl, rfl, rfl, w2⟩ := open_string Tryd.underlying9 (hval 2 9 v2 rfl rfl) h2
  clear hA0
  have kV := hV
  obtain ⟨gv0, tv0, cs0, m0, yv0, pv0, rfl, _, _, _, _, _⟩ := trodVars_one (show DataW.TrodVars enc Tryd.prog W (fun _ => true) ["loop.example/g00873/impl.byteClasses"] gs q from hV)
  refine (walk_FnExactWriteFile x0 l0 a1 w1 a2 w2 W ho0 hL).mono fun e W' ⟨he, bel⟩ => ?_
  subst he
  exact ⟨_, rfl, _, _, _, [], _, _, hW', trodAll_mk1 (shut_bool Tryd.underlying4 _), (trodAll_cons_mk (Below.trod laidOut (by kernel_rfl) (of_decide_eq_true (by kernel_rfl)) k0 bel lt0) (trodAll_cons_mk (Below.trod laidOut (by kernel_rfl) (of_decide_eq_true (by kernel_rfl)) k1 bel lt1) (trodAll_cons_mk (Below.trod laidOut (by kernel_rfl) (of_decide_eq_true (by kernel_rfl)) k2 bel lt2) trodAll_mk0))), (Below.trodVars laidOut bel (by kernel_rfl) kV), bel.frame _, fun h => by cases h⟩

theorem laid_met (os : Os) : laidMetH Tryd.prog Rows.fnExactWriteFileRow.laid ((World.doorLaid Tryd.prog 4000 os).forCall (fun _ _ => 0) ⟨#[], #[.agg #[.slice none 0 0, .int .i64 0, .slice none 0 0, .slice none 0 0, .slice none 0 0], .string ByteArray.empty, .string ByteArray.empty], []⟩).memory :=
  laidMetH_of_parts3 (fuel := 8) (laidMet_of_run' 8 (by kernel_rfl) (by kernel_rfl)) (by kernel_rfl) (by kernel_rfl)
theorem reads (os : Os) {H : Type} (enc : TypeId × Value → H) : ∃ places, DataW.whole enc Tryd.prog ((World.doorLaid Tryd.prog 4000 os).forCall (fun _ _ => 0) ⟨#[], #[.agg #[.slice none 0 0, .int .i64 0, .slice none 0 0, .slice none 0 0, .slice none 0 0], .string ByteArray.empty, .string ByteArray.empty], []⟩).memory Tryd.f5.params.toList Rows.fnExactWriteFileSpec.vars false #[Value.agg #[.slice none 0 0, .int .i64 0, .slice none 0 0, .slice none 0 0, .slice none 0 0], Value.string ByteArray.empty, Value.string ByteArray.empty].toList 8 = some ([.agg [.nil, .lit (.int .i64 0), .nil, .nil, .nil], .lit (.string []), .lit (.string [])], [Rows.laid_loop_example_g00873_impl_byteClasses], places) :=
  ⟨MemPlace.row ⟨0, 0, none⟩ 128, by kernel_rfl⟩

set_option maxRecDepth 100000 in
theorem lifted (os : Os) (started : os.Started) (H : Type) (enc : TypeId × Value → H) (F : Stop.Interp) :
    ReturnsInHanded {} Tryd.checked os 5 .any ((OpenSpec.ofChange Rows.fnExactWriteFileSpec).preRow enc Tryd.prog Tryd.f5 Rows.fnExactWriteFileRow.domain false Rows.fnExactWriteFileRow.laid) (((OpenSpec.ofChange Rows.fnExactWriteFileSpec).at F).post enc Tryd.prog Tryd.f5 false true false false) := by
  obtain ⟨places, hx⟩ := reads os enc
  refine returnsInHanded_of_row (C := Tryd.checked) (s := OpenSpec.ofChange Rows.fnExactWriteFileSpec) own started (by kernel_rfl) Tryd.func5
    (witness_row_at (enc := enc) (C := Tryd.checked) false (World.doorLaid Tryd.prog 4000 os) #[.agg #[.slice none 0 0, .int .i64 0, .slice none 0 0, .slice none 0 0, .slice none 0 0], .string ByteArray.empty, .string ByteArray.empty] rfl (by kernel_rfl) (by kernel_rfl) (by kernel_rfl)
      (OpenSpec.preRow_of_cond 8 hx (by kernel_rfl) (fun k hk => by cases hk) (by kernel_rfl) (laid_met os))) ?_
  intro W base args ds gs before hval hW _ hb hz hL hsh _
  exact contract H enc W base args ds gs before hval hW hL

theorem over : Rows.FnExactWriteFileSaid :=
  OpenClaim.holds_of_cond 5 Tryd.f5 rfl rfl rfl rfl rfl rfl rfl ⟨rfl, rfl, rfl, rfl, rfl⟩ rfl rfl rfl rfl rfl (by kernel_rfl) Tryd.func5 (by kernel_rfl)
    (of_decide_eq_true (by kernel_rfl)) (by unfold Func.isWrapper; first | (rw [if_pos (by decide +kernel)]; kernel_rfl) | (rw [if_neg (by decide +kernel)]; exact ⟨rfl, rfl⟩))
    (fun os started H enc _ F => by rw [OpenClaim.pre_eq_preRow]; exact lifted os started H enc F)

theorem plain (f : FuncId) (fn : Func) (hf : Tryd.pinned.checked.prog.funcNamed "loop.example/g00873/laws.FnExactWriteFile" = some f) (hfn : Tryd.pinned.checked.prog.funcs[f]? = some fn) :
    false = Tryd.pinned.checked.prog.looks [] ∧ ∀ (j : Nat) t, fn.params[j]? = some t → Tryd.pinned.checked.prog.wantsStandIn t = false := by
  obtain rfl : f = 5 := Option.some.inj ((show Tryd.prog.funcNamed "loop.example/g00873/laws.FnExactWriteFile" = some 5 by kernel_rfl).symm.trans hf) |>.symm
  obtain rfl : fn = Tryd.f5 := (Option.some.inj (Tryd.func5.symm.trans hfn)).symm
  refine ⟨by kernel_rfl, fun j t ht => ?_⟩
  rw [Tryd.params5] at ht
  have ht' : t = 25 ∨ t = 9 := by simpa using Array.mem_of_getElem? ht
  rcases ht' with rfl | rfl
  · exact (show Tryd.prog.wantsStandIn 25 = false by kernel_rfl)
  · exact (show Tryd.prog.wantsStandIn 9 = false by kernel_rfl)

theorem proved : Rows.FnExactWriteFileCardSaid :=
  Claim7.holds_tied_plain_at .later [] _ _ _ _ over (fun _ h => by cases h) (by kernel_rfl) (fun _ h => by cases h) fnExactWriteFile_row_tie rfl ⟨rfl, rfl⟩ (by kernel_rfl) rfl plain (by kernel_rfl)
#print axioms proved
end Go.Proofs.YtlohjmlenbkbmaaDoor.fnExactWriteFile
