import Derived.Test.YtjdniebjhilooaaGreatDoorM08
import Derived.Lib.AppendZerosOnto
namespace Go.Proofs.YtjdniebjhilooaaGreatDoor
set_option linter.all false
open Go.RowKit Go.Fl
theorem wpList_appz {P : Program} {w w' : World} {ops : Array Oper} {rest : List Oper} {o : Oper} {a : Act} {Q : Exit → Act → World → Prop} (hw : Region.wanted o (yielded ops a.tmps) = true) (s x : Operand) (t tx : TypeId)
 (ho : o.op = .call { callee := .builtin .append, args := #[s, x], argTypes := #[t, tx] }) (v : Value)
 (hrun : (Builtin.append_ #[t, tx] o.type #[a.eval s, a.eval x]).run P w = .ok v w')
 (hK : wpList P ops Q rest (a.put o.dst v) w') : wpList P ops Q (o :: rest) a w := by
 refine BigFrame.wpList_want hw fun K hK' => ?_
 unfold Oper.wp
 simp [execOp, ho, resolve, invoke, builtin, hrun, Result.andThen]
 exact hK' _ _ hK
theorem zeroCells_eq (k : Nat) : (Builtin.zeroCells (Value.float .f32 0).cells k).toList = flts (List.replicate k 0) := by
 have : (Value.float .f32 0).cells = #[.float .f32 0] := rfl
 rw [this]
 unfold Builtin.zeroCells
 simp only [flts, List.map_replicate]
 apply List.ext_getElem (by simp)
 intro j h1 h2
 simp [Nat.mod_one]
theorem app_zeros (xs : List Nat) (k : Nat) (K : Int) (hK : K = (k : Int)) (h0 : 0 < k) (hm : xs.length + k ≤ 100) (hfit : Builtin.nextslicecap (xs.length + k) xs.length * 4 ≤ 281474976710656) (w : World) :
 ∃ c w', (Builtin.append_ #[22, 3] 22 #[.slice (some ⟨w.heap.size, 0, none⟩) xs.length xs.length, .int .i64 K]).run Tryz.prog (w.alloc (.cells (flts xs).toArray 56)) = .ok (.slice (some ⟨w.heap.size + 1, 0, none⟩) (xs.length + k) c) w' ∧ Rd w' (some ⟨w.heap.size + 1, 0, none⟩) (flts (xs ++ List.replicate k 0)) ∧ Below w.heap.size w w' := by
 subst hK
 obtain ⟨i, hi, hz0, hz1, hz2⟩ := info_parts info37
 have hold : (Builtin.firstCells i.size xs.length (.slice (some ⟨w.heap.size, 0, none⟩) xs.length xs.length)).run Tryz.prog (w.alloc (.cells (flts xs).toArray 56)).drew = .ok (flts xs).toArray (w.alloc (.cells (flts xs).toArray 56)).drew := by
  refine run_firstCells_some _ i.size xs.length ⟨w.heap.size, 0, none⟩ _ _ (flts xs) (by simp [flts, hz1]) fun j v hv => ?_
  obtain ⟨b, off, hh, hc⟩ := (Rd.row (Row.new w 56 (flts xs))).drew j v hv
  cases hh
  by_cases hj : j = 0
  · subst hj; simpa [Addr.add] using hc
  · simpa [Addr.add, hj] using hc
 have hrun := Lib.run_append_grow_zeros (P := Tryz.prog) (w.alloc (.cells (flts xs).toArray 56)) 22 3 22 56 i (.float .f32 0) .i64 .i64 Tryz.underlying22 Tryz.underlying3 hi hz0 (some ⟨w.heap.size, 0, none⟩) xs.length xs.length (flts xs) hold k h0 (by omega) (by omega) (by omega) (by rw [hz2]; omega) (by rw [hz2]; exact hfit)
 rw [World.size_alloc] at hrun
 refine ⟨_, _, hrun, ?_, ((below_row ((Below.refl w.heap.size w).alloc (Nat.le_refl _) (.cells (flts xs).toArray 56)) 1).alloc (by show w.heap.size ≤ (w.alloc _).heap.size; simp) _)⟩
 have hn := Row.new (w.alloc (.cells (flts xs).toArray 56)).drew 56 (flts (xs ++ List.replicate k 0) ++ (Builtin.zeroCells (Value.float .f32 0).cells (grownCap (w.alloc (.cells (flts xs).toArray 56)) (xs.length + k) xs.length 56 - (xs.length + k))).toList)
 rw [show (w.alloc (.cells (flts xs).toArray 56)).drew.heap.size = w.heap.size + 1 by show (w.alloc _).heap.size = _; simp] at hn
 have he : (flts (xs ++ List.replicate k 0) ++ (Builtin.zeroCells (Value.float .f32 0).cells (grownCap (w.alloc (.cells (flts xs).toArray 56)) (xs.length + k) xs.length 56 - (xs.length + k))).toList).toArray = (flts xs).toArray ++ Builtin.zeroCells (Value.float .f32 0).cells k ++ Builtin.zeroCells (Value.float .f32 0).cells (grownCap (w.alloc (.cells (flts xs).toArray 56)) (xs.length + k) xs.length 56 - (xs.length + k)) := by
  apply Array.toList_inj.1
  simp only [Array.toList_append, List.toList_toArray, zeroCells_eq]
  simp [flts]
 rw [← he]
 have h2 := (Rd.row hn).take (flts (xs ++ List.replicate k 0)).length
 rwa [List.take_left] at h2
end Go.Proofs.YtjdniebjhilooaaGreatDoor
