import Derived.Test.YtoclnlimnjnbkaaGreatDoorM30
import Derived.Deep.LoopGhost
namespace Go.Proofs.YtoclnlimnjnbkaaGreatDoor
set_option linter.all false
open Go.RowKit Go.Fl


def CxP (a : List Int) (r0 i0 r1 i1 r2 i2 r3 i3 : Nat) : Prop := ∀ j (h : j < [(r0, i0), (r1, i1), (r2, i2), (r3, i3)].length), S [(r0, i0), (r1, i1), (r2, i2), (r3, i3)][j].1 (fourP a j 4).1 ∧ S [(r0, i0), (r1, i1), (r2, i2), (r3, i3)][j].2 (fourP a j 4).2
theorem CxP.part {a : List Int} (ha : ∀ j, (a.getD j 0).natAbs ≤ 16384) {r0 i0 r1 i1 r2 i2 r3 i3 : Nat} (h : CxP a r0 i0 r1 i1 r2 i2 r3 i3) : ∀ p ∈ [(r0, i0), (r1, i1), (r2, i2), (r3, i3)], partI p.1 65536 = 0 ∧ partI p.2 65536 = 0 := by
  intro p hp
  obtain ⟨j, hj, rfl⟩ := List.mem_iff_getElem.1 hp
  have hbd := fourP_bd a j 4 ha
  exact ⟨partI_S (h j hj).1 hbd.1, partI_S (h j hj).2 hbd.2⟩



end Go.Proofs.YtoclnlimnjnbkaaGreatDoor
