import Derived.Test.YtphgfiihccofnaaGreatDoorM33
import Derived.Test.YtphgfiihccofnaaGreatDoorM31
import Derived.Test.YtphgfiihccofnaaGreatDoorM11
/- The law of recordings, walked. -/
namespace Go.Proofs.YtphgfiihccofnaaGreatDoor
set_option linter.all false
open Go.RowKit Go.Fl
set_option linter.unusedVariables false
set_option linter.unusedSimpArgs false

theorem ex_row2 {P : Program} {o : Oper} {a : Act} {w : World} (ty : TypeId) (x : Operand) (ho : o.op = .load ty x) (g : Nat) (hx : a.eval x = .pointer (some ⟨g, 0, none⟩)) (t : TypeId) (cs : List Value) (d : TypeDesc)
    (hu : P.underlying ty = some d) (hd : (match d with | .struct _ | .array _ _ => true | _ => false) = true) (hi : (P.info? ty).map (·.size) = some cs.length) (hr : Row w g t cs) : (execOp a.eval o).run P w = .ok (.value (.agg cs.toArray)) w := by
  unfold execOp
  simp only [ho, hx, Instr.loadAt, Instr.sureAddr, Sem.run_bind, Sem.run_pure, Result.andThen_ok, run_loadVar_row w g t ty cs.toArray (0, 0) d hr hu hd (by simpa using hi)]
/-- the law's parameters, where they lie -/
def RrS (w : World) (A B : Option Addr) (xs : List Nat) (ms : List (Int × ByteArray)) (L0 L1 : List Value) (W : World) : Prop := Row W w.heap.size 25 L0 ∧ Row W (w.heap.size + 1) 27 L1 ∧ Rd W A (flts xs) ∧ Rd W B (markC ms) ∧ Aw W ∧ Below w.heap.size w W
theorem RrS.keep {w W W' : World} {A B : Option Addr} {xs : List Nat} {ms : List (Int × ByteArray)} {L0 L1 : List Value} (h : RrS w A B xs ms L0 L1 W) (hb : Below W.heap.size W W') : RrS w A B xs ms L0 L1 W' :=
  ⟨h.1.old hb, h.2.1.old hb, h.2.2.1.below hb, h.2.2.2.1.below hb, h.2.2.2.2.1.old hb, h.2.2.2.2.2.trans (hb.mono h.2.2.2.2.2.size)⟩
theorem RrS.new {w : World} {A B : Option Addr} {xs : List Nat} {ms : List (Int × ByteArray)} {L0 L1 : List Value} (hA : Rd w A (flts xs)) (hB : Rd w B (markC ms)) (hW : Aw w) : RrS w A B xs ms L0 L1 ((w.alloc (.cells L0.toArray 25)).alloc (.cells L1.toArray 27)) := by
  have hb : Below w.heap.size w ((w.alloc (.cells L0.toArray 25)).alloc (.cells L1.toArray 27)) := ((Below.refl _ _).alloc (Nat.le_refl _) _).alloc (by simp) _
  have r1 := Row.new (w.alloc (.cells L0.toArray 25)) 27 L1
  rw [World.size_alloc] at r1
  exact ⟨(Row.new w 25 L0).alloc _, r1, hA.below hb, hB.below hb, hW.old hb, hb⟩
theorem new_below (w : World) (o : Obj) (cs : Array Value) : Below w.heap.size w ((w.alloc o).setRow w.heap.size cs) := Below.setRow ((Below.refl _ _).alloc (Nat.le_refl _) _) (Nat.le_refl _) _
theorem new_row (w : World) (t : TypeId) (vs us : List Value) : Row ((w.alloc (.cells vs.toArray t)).setRow w.heap.size us.toArray) w.heap.size t us := (Row.new w t vs).setRow _

end Go.Proofs.YtphgfiihccofnaaGreatDoor

/- The law of recordings: what its walk wants. -/
namespace Go.Proofs.YtphgfiihccofnaaGreatDoor
set_option linter.all false
open Go.RowKit Go.Fl
set_option linter.unusedVariables false
set_option linter.unusedSimpArgs false

theorem recI_samps {st sp : Int} {xs : List Nat} {ms : List (Int × ByteArray)} (h : recI st sp xs ms = 0) : sampsI xs = 0 := firstI_allz h _ (by simp)
theorem shortRB_len {n : Nat} {ms : List (Int × ByteArray)} (h : shortRB n ms = true) : n ≤ 4097 ∧ ms.length ≤ 17 := by
  unfold shortRB at h
  simp only [Bool.and_eq_true, Bool.or_eq_true, decide_eq_true_eq] at h
  obtain ⟨⟨_, h1⟩, h2⟩ := h
  unfold shortB at h1
  simp only [Bool.or_eq_true, decide_eq_true_eq] at h1
  omega
end Go.Proofs.YtphgfiihccofnaaGreatDoor
