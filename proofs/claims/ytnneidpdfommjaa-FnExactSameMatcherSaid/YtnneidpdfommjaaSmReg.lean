/- The large regions of SameMatcher, model's and program's: their own operations only read. No condition. -/
import Derived.Test.YtnneidpdfommjaaMrBox
namespace Go.Proofs.Ytnneidpdfommjaa
open Go Go.RowKit Go.Sort

/-- The operations of region n. -/
def findR : Code → Nat → Option (Array Oper)
  | .region i ops _, n => if i = n then some ops else none
  | .seq a b, n => match findR a n with
    | some o => some o
    | none => findR b n
  | .cond _ a b, n => match findR a n with
    | some o => some o
    | none => findR b n
  | .block _ a, n => findR a n
  | .loop a, n => findR a n
  | _, _ => none
theorem wpList_of_quiet {P : Program} {ops : Array Oper} {C : World → Prop} {Qq : Act → Prop} {Q : Exit → Act → World → Prop} (hQ : ∀ a w, C w → Qq a → Q .normal a w) : ∀ (l : List Oper) (a : Act) (w : World), C w → wpQuiet P ops C Qq l a → wpList P ops Q l a w
  | [], a, w, hw, h => hQ a w hw h
  | o :: rest, a, w, hw, h => by
    unfold wpQuiet at h
    unfold wpList
    split
    · rename_i hc
      rw [if_pos hc] at h
      exact .inl (Oper.wp_of_quiet hw (fun a' w' hw' hk => wpList_of_quiet hQ rest a' w' hw' hk) h)
    · rename_i hc
      rw [if_neg hc] at h
      exact wpList_of_quiet hQ rest _ w hw h
/-- A region that does not draw, walked as one that does. -/
theorem wp_region_quiet_plain {P : Program} {id : Nat} {Q : Exit → Act → World → Prop} {a : Act} {w : World} {l : List Oper}
    (h : wpQuiet P l.toArray (fun w' => ∃ p : Regrown, w' = grow (redrawn w p.d) p.os) (fun a' => ∀ w', (∃ p : Regrown, w' = grow (redrawn w p.d) p.os) → Q .normal a' w') l a) : (Code.region id l.toArray false).wp P Q a w :=
  wp_region_list (wpList_of_quiet (Qq := fun a' => ∀ w', (∃ p : Regrown, w' = grow (redrawn w p.d) p.os) → Q .normal a' w') (fun a' w' hw hk => hk w' hw) l.toArray.toList a w (regrown_of_below (Below.refl _ _)) (by simpa using h))
theorem lexI : Region.lexB .any ((Try.f7.body.bind fun c => findR c 1).getD #[]) = true := by kernel_rfl
end Go.Proofs.Ytnneidpdfommjaa
