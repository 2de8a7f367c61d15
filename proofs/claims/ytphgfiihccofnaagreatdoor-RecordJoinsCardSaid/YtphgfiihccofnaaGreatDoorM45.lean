import Derived.Test.YtphgfiihccofnaaGreatDoorM36
/- Kit of the cards: a recording's list of marks that is nil has no capacity. -/
namespace Go.Proofs.YtphgfiihccofnaaGreatDoor
set_option linter.all false
open Go.RowKit Go.ChangeShapes Go.WideShapes Go.ChangeAt Go.Lib
set_option linter.unusedVariables false

set_option maxRecDepth 100000 in
theorem rec_cap {W : World} {b0 : Nat} {r : Reach} {c0 c1 c2 : Value} {B : Option Addr} {n e : Nat}
    (hok : Value.okWide Tryz.prog W r b0 25 (.agg #[c0, c1, c2, .slice B n e])) : B = none → e = 0 := by
  obtain ⟨cs, hv, hl, hc⟩ := ok_agg (ts := [3, 3, 22, 23]) (.inl ⟨_, Tryz.underlying25⟩) (by kernel_rfl) (by kernel_rfl) hok
  obtain ⟨a, b, c, d, rfl⟩ : ∃ a b c d, cs = [a, b, c, d] := by match cs, hl with | [a, b, c, d], _ => exact ⟨a, b, c, d, rfl⟩
  cases hv
  have o3 : Value.okWide Tryz.prog W r b0 23 (.slice B n e) := wide_slice Tryz.underlying23 (hc 3 _ _ rfl rfl)
  intro hB
  rcases ok_slice Tryz.underlying23 o3 with h | ⟨b', off, len, cap, h, _⟩
  · cases h; rfl
  · cases h; cases hB
end Go.Proofs.YtphgfiihccofnaaGreatDoor
