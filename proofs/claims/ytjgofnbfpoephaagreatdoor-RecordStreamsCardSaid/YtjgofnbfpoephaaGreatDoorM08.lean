/- Texts that were made one by one: Cp Eq Fo Is. -/
import Derived.Test.YtjgofnbfpoephaaGreatDoorM07
import Derived.Test.YtjgofnbfpoephaaGreatDoorM04
import Derived.ChangeKeysEq
import Derived.IntWalk
import Derived.Test.YtjgofnbfpoephaaGreatDoorM06
import Derived.Laws.CopyOwn
/- Contracts: the powers of -i. -/
namespace Go.Proofs.YtjgofnbfpoephaaGreatDoor
set_option linter.all false
open Go.RowKit Go.Fl
set_option linter.unusedVariables false
set_option linter.unusedSimpArgs false

/-- the table of the powers of -i lies in its variable's block -/
def Pw (w : World) : Prop := ∀ j v, [(1 : Int), 0, 0, -1, -1, 0, 0, 1][j]? = some v → w.cell? ⟨0, j, none⟩ = some (.int .i64 v)
theorem Pw.at {w : World} (h : Pw w) (j : Nat) (v : Int) (hv : [(1 : Int), 0, 0, -1, -1, 0, 0, 1][j]? = some v) : w.cell? ⟨0, j, none⟩ = some (.int .i64 v) := h j v hv
theorem Pw.old {w w' : World} (h : Pw w) (hb : Below w.heap.size w w') : Pw w' := fun j v hv => (hb.cell (World.block_lt_of_cell? w _ (h j v hv))).trans (h j v hv)

def powR (n : Nat) : Int := if n % 4 = 0 then 1 else if n % 4 = 2 then -1 else 0
def powI (n : Nat) : Int := if n % 4 = 1 then -1 else if n % 4 = 3 then 1 else 0
def pb (n : Int) : Nat := if n = 1 then 1065353216 else if n = -1 then 3212836864 else 0
theorem pb_spec (n : Int) (h : n = 1 ∨ n = -1 ∨ n = 0) : S (pb n) (16 * n) := by
  rcases h with rfl | rfl | rfl
  · exact S.one
  · exact S.minus
  · exact S.zero
theorem powR_or (n : Nat) : powR n = 1 ∨ powR n = -1 ∨ powR n = 0 := by
  unfold powR
  by_cases h0 : n % 4 = 0
  · simp [h0]
  · by_cases h2 : n % 4 = 2 <;> simp [h0, h2]
theorem powI_or (n : Nat) : powI n = 1 ∨ powI n = -1 ∨ powI n = 0 := by
  unfold powI
  by_cases h0 : n % 4 = 1
  · simp [h0]
  · by_cases h2 : n % 4 = 3 <;> simp [h0, h2]

theorem ret_cx {a b c d : Nat} (h1 : a = c) (h2 : b = d) : Ending.returned (.complex .f32 a b) = .returned (.complex .f32 c d) := by rw [h1, h2]
theorem c0 : floatOfInt .f32 0 = 0 := by decide +kernel
theorem c1 : floatOfInt .f32 1 = 1065353216 := by decide +kernel
theorem cm : floatOfInt .f32 (-1) = 3212836864 := by decide +kernel

set_option maxHeartbeats 400000 in
theorem power_any (n : Nat) (w : World) (hw : Pw w) (hn : n < 1000000) : Calls Tryz.prog 166 #[.int .i64 n] w fun e w' => e = .returned (.complex .f32 (pb (powR n)) (pb (powI n))) ∧ Below w.heap.size w w' := by
  have hm : n % 4 = 0 ∨ n % 4 = 1 ∨ n % 4 = 2 ∨ n % 4 = 3 := by omega
  have H0 := hw.at 0 1 rfl
  have H1 := hw.at 1 0 rfl
  have H2 := hw.at 2 0 rfl
  have H3 := hw.at 3 (-1) rfl
  have H4 := hw.at 4 (-1) rfl
  have H5 := hw.at 5 0 rfl
  have H6 := hw.at 6 0 rfl
  have H7 := hw.at 7 1 rfl
  have hlt := World.block_lt_of_cell? w _ H0
  rcases hm with h | h | h | h
  · have hp : Hid (pb (powR n) = 1065353216 ∧ pb (powI n) = 0) := by unfold Hid powR powI; simp [h]; decide
    have hi : (n : Int) % 4 = 0 := by omega
    clear h hw H2 H3 H4 H5 H6 H7
    go_enter Tryz.func166, Tryz.ntmps166
    go_wp2
    go_ret
    exact ⟨ret_cx (by rw [hp.out.1]; exact c1) (by rw [hp.out.2]; exact c0), by repeat (first | exact Below.refl _ _ | refine below_drewN ?_ _ | refine Below.drew ?_ | refine Below.alloc ?_ (by simp) _)⟩
  · have hp : Hid (pb (powR n) = 0 ∧ pb (powI n) = 3212836864) := by unfold Hid powR powI; simp [h]; decide
    have hi : (n : Int) % 4 = 1 := by omega
    clear h hw H0 H1 H4 H5 H6 H7
    go_enter Tryz.func166, Tryz.ntmps166
    go_wp2
    go_ret
    exact ⟨ret_cx (by rw [hp.out.1]; exact c0) (by rw [hp.out.2]; exact cm), by repeat (first | exact Below.refl _ _ | refine below_drewN ?_ _ | refine Below.drew ?_ | refine Below.alloc ?_ (by simp) _)⟩
  · have hp : Hid (pb (powR n) = 3212836864 ∧ pb (powI n) = 0) := by unfold Hid powR powI; simp [h]; decide
    have hi : (n : Int) % 4 = 2 := by omega
    clear h hw H0 H1 H2 H3 H6 H7
    go_enter Tryz.func166, Tryz.ntmps166
    go_wp2
    go_ret
    exact ⟨ret_cx (by rw [hp.out.1]; exact cm) (by rw [hp.out.2]; exact c0), by repeat (first | exact Below.refl _ _ | refine below_drewN ?_ _ | refine Below.drew ?_ | refine Below.alloc ?_ (by simp) _)⟩
  · have hp : Hid (pb (powR n) = 0 ∧ pb (powI n) = 1065353216) := by unfold Hid powR powI; simp [h]; decide
    have hi : (n : Int) % 4 = 3 := by omega
    clear h hw H0 H1 H2 H3 H4 H5
    go_enter Tryz.func166, Tryz.ntmps166
    go_wp2
    go_ret
    exact ⟨ret_cx (by rw [hp.out.1]; exact c0) (by rw [hp.out.2]; exact c1), by repeat (first | exact Below.refl _ _ | refine below_drewN ?_ _ | refine Below.drew ?_ | refine Below.alloc ?_ (by simp) _)⟩
end Go.Proofs.YtjgofnbfpoephaaGreatDoor

/- Arrays of numbers, and packets, are compared element by element. -/
namespace Go.Proofs.YtjgofnbfpoephaaGreatDoor
set_option linter.all false
open Go.RowKit Go.Fl
set_option linter.unusedVariables false
set_option linter.unusedSimpArgs false

section
variable {P : Program} (w : World)
/-- element by element -/
def all2 (f : Value → Value → Bool) : List Value → List Value → Bool
  | [], [] => true
  | x :: xs, y :: ys => f x y && all2 f xs ys
  | _, _ => false
theorem all2_range (f : Value → Value → Bool) : ∀ (xs ys : List Value), xs.length = ys.length → ((List.range xs.length).all fun i => f (xs.getD i undef) (ys.getD i undef)) = all2 f xs ys
  | [], [], _ => rfl
  | x :: xs, y :: ys, h => by
    rw [all2, ← all2_range f xs ys (by simpa using h), List.length_cons, List.range_succ_eq_map]
    simp
    rfl
  | [], _ :: _, h => by simp at h
  | _ :: _, [], h => by simp at h

theorem run_eqItems (d : Nat) (e : TypeId) (c : Nat) (hc : c = 1) (f : Value → Value → Bool) (xs ys : List Value) (hp : ∀ (zs : List Value) (i : Nat), i < zs.length → (part e zs.toArray (i * 1)).run P w = .ok (zs.getD i undef) w)
    (hf : ∀ i, i < xs.length → (Op.equalIn d e (xs.getD i undef) (ys.getD i undef)).run P w = .ok (f (xs.getD i undef) (ys.getD i undef)) w) (hl : xs.length = ys.length) :
    ∀ l : List Nat, (∀ i ∈ l, i < xs.length) → (Op.eqItems d e c xs.toArray ys.toArray l).run P w = .ok (l.all fun i => f (xs.getD i undef) (ys.getD i undef)) w := by
  subst hc
  intro l
  induction l with
  | nil => intro _; simp [Op.eqItems]
  | cons i l ih =>
    intro h
    have hi := h i (by simp)
    simp only [Op.eqItems, Sem.run_bind, hp xs i hi, hp ys i (hl ▸ hi), hf i hi, Result.andThen_ok, List.all_cons]
    cases f (xs.getD i undef) (ys.getD i undef)
    · simp
    · simp only [Bool.not_true, Bool.false_eq_true, if_false, Bool.true_and]
      exact ih fun j hj => h j (by simp [hj])

theorem run_eqArray (d : Nat) (t e : TypeId) (n : Nat) (i : TypeInfo) (f : Value → Value → Bool) (xs ys : List Value) (hu : P.underlying t = some (.array n e)) (hi : P.info? e = some i) (hc : P.cellsOf e = 1)
    (hp : ∀ (zs : List Value) (i : Nat), i < zs.length → (part e zs.toArray (i * 1)).run P w = .ok (zs.getD i undef) w)
    (hf : ∀ i, i < xs.length → (Op.equalIn d e (xs.getD i undef) (ys.getD i undef)).run P w = .ok (f (xs.getD i undef) (ys.getD i undef)) w) (hx : xs.length = n) (hy : ys.length = n) :
    (Op.equalIn (d + 1) t (.agg xs.toArray) (.agg ys.toArray)).run P w = .ok (all2 f xs ys) w := by
  rw [run_equalIn_array w d xs.toArray ys.toArray hu hi, run_eqItems w d e _ hc f xs ys hp hf (hx.trans hy.symm) _ (fun i hi => by rw [hx]; exact List.mem_range.1 hi), ← hx, all2_range f xs ys (hx.trans hy.symm)]

theorem run_equalIn_float (d : Nat) (t : TypeId) (k k' : FloatKind) (a b : Nat) (h : P.underlying t = some (.float k')) : (Op.equalIn (d + 1) t (.float k a) (.float k b)).run P w = .ok (k.format.order a b == some .eq) w := by
  simp [Op.equalIn, run_underlying h, Op.floatEq]
theorem run_equalIn_complex (d : Nat) (t : TypeId) (k k' : FloatKind) (a b c e : Nat) (h : P.underlying t = some (.complex k')) : (Op.equalIn (d + 1) t (.complex k a b) (.complex k c e)).run P w = .ok ((k.format.order a c == some .eq) && (k.format.order b e == some .eq)) w := by
  simp [Op.equalIn, run_underlying h, Op.floatEq]
theorem part_scalar (e : TypeId) (h : ∀ w, (isAgg e).run P w = .ok false w) (zs : List Value) (i : Nat) (hi : i < zs.length) : (part e zs.toArray (i * 1)).run P w = .ok (zs.getD i undef) w := by
  simp [part, h, hi]
end

def fEq : Value → Value → Bool
  | .float _ a, .float _ b => FloatKind.f32.format.order a b == some .eq
  | _, _ => false
theorem all2_flts : ∀ xs ys : List Nat, all2 fEq (flts xs) (flts ys) = sameF xs ys
  | [], [] => rfl
  | x :: xs, y :: ys => by
    have := all2_flts xs ys
    simp only [flts, List.map_cons, all2, sameF, fEq] at this ⊢
    rw [this]
  | [], _ :: _ => rfl
  | _ :: _, [] => rfl
theorem flts_getD (xs : List Nat) (i : Nat) (h : i < (flts xs).length) : (flts xs).getD i undef = .float .f32 (xs.getD i 0) := by
  have h2 : i < xs.length := by simpa [flts] using h
  simp [flts, h2]

theorem isAgg37 (w : World) : (isAgg 37).run Tryz.prog w = .ok false w := by kernel_rfl
/-- [8]float32 (and [4]): whatever number of elements -/
theorem eqFloats (d : Nat) (t : TypeId) (n : Nat) (hu : Tryz.prog.underlying t = some (.array n 37)) (xs ys : List Nat) (hx : xs.length = n) (hy : ys.length = n) (w : World) :
    (Op.equalIn (d + 2) t (.agg (flts xs).toArray) (.agg (flts ys).toArray)).run Tryz.prog w = .ok (sameF xs ys) w := by
  obtain ⟨i, hi, _⟩ := info_parts info37
  rw [run_eqArray w (d + 1) t 37 n i fEq (flts xs) (flts ys) hu hi (by kernel_rfl) (part_scalar w _ isAgg37) ?_ (by simpa [flts] using hx) (by simpa [flts] using hy), all2_flts]
  intro j hj
  have hj2 : j < (flts ys).length := by simp [flts] at hj ⊢; omega
  rw [flts_getD xs j hj, flts_getD ys j hj2, run_equalIn_float w d _ .f32 .f32 _ _ Tryz.underlying37]
  rfl

def samePk (st ct ln : Int) (xs : List Nat) (st' ct' ln' : Int) (ys : List Nat) : Bool := st == st' && (ct == ct' && (ln == ln' && sameF xs ys))
theorem extract_pk (st ct ln : Int) (xs : List Nat) (hx : xs.length = 8) : (pkC st ct ln xs).toArray.extract 3 11 = (flts xs).toArray := by
  match xs, hx with
  | [_, _, _, _, _, _, _, _], _ => rfl

section
variable {P : Program} (w : World)
/-- the fields of a struct, by name, type and place -/
def eqTriples (d : Nat) (xs ys : Array Value) : List (String × TypeId × Nat) → Sem Bool
  | [] => pure true
  | f :: fs =>
    if f.1 ≠ "_" then do
      let a ← part f.2.1 xs f.2.2
      let b ← part f.2.1 ys f.2.2
      let r ← Op.equalIn d f.2.1 a b
      if (!r) = true then pure false else eqTriples d xs ys fs
    else eqTriples d xs ys fs
theorem eqFields_triples (d : Nat) (xs ys : Array Value) (fs : List Field) : Op.eqFields d xs ys fs = eqTriples d xs ys (fs.map fun f => (f.name, f.type, f.offset)) := by
  induction fs with
  | nil => rfl
  | cons f fs ih => simp only [Op.eqFields, eqTriples, List.map_cons, ih]
theorem run_eqStruct (d : Nat) (t : TypeId) (xs ys : Array Value) (l : List (String × TypeId × Nat)) (ht : P.underlying t = some (.struct (P.fieldsOf t))) (hp : P.stoodInHeld t = false) (hl : ((P.fieldsOf t).toList.map fun f => (f.name, f.type, f.offset)) = l) :
    (Op.equalIn (d + 1) t (.agg xs) (.agg ys)).run P w = (eqTriples d xs ys l).run P w := by
  rw [run_equalIn_struct w d t xs ys ht hp, eqFields_triples, hl]
end

theorem isAgg3 (w : World) : (isAgg 3).run Tryz.prog w = .ok false w := by kernel_rfl
theorem isAgg48 (w : World) : (isAgg 48).run Tryz.prog w = .ok true w := by kernel_rfl
theorem size48 (w : World) : (sizeOf 48).run Tryz.prog w = .ok 8 w := by kernel_rfl
theorem part_int (cs : Array Value) (i : Nat) (v : Value) (h : cs[i]? = some v) (w : World) : (part 3 cs i).run Tryz.prog w = .ok v w := by
  simp [part, isAgg3, h]
theorem part_samples (st ct ln : Int) (xs : List Nat) (hx : xs.length = 8) (w : World) : (part 48 (pkC st ct ln xs).toArray 3).run Tryz.prog w = .ok (.agg (flts xs).toArray) w := by
  have h := extract_pk st ct ln xs hx
  unfold part
  simp only [Sem.run_bind, isAgg48, Result.andThen_ok, if_true, size48, Sem.run_pure]
  rw [show 3 + 8 = 11 from rfl, h]
theorem fields54 : ((Tryz.prog.fieldsOf 54).toList.map fun f => (f.name, f.type, f.offset)) = [("Station", 3, 0), ("Counter", 3, 1), ("Length", 3, 2), ("Samples", 48, 3)] := by kernel_rfl
theorem fields50 : ((Tryz.prog.fieldsOf 50).toList.map fun f => (f.name, f.type, f.offset)) = [("Station", 3, 0), ("Counter", 3, 1), ("Length", 3, 2), ("Samples", 48, 3)] := by kernel_rfl

theorem eqPk (st ct ln : Int) (xs : List Nat) (st' ct' ln' : Int) (ys : List Nat) (hx : xs.length = 8) (hy : ys.length = 8) (w : World) :
    (eqTriples 9999 (pkC st ct ln xs).toArray (pkC st' ct' ln' ys).toArray [("Station", 3, 0), ("Counter", 3, 1), ("Length", 3, 2), ("Samples", 48, 3)]).run Tryz.prog w = .ok (samePk st ct ln xs st' ct' ln' ys) w := by
  have i3 := Tryz.underlying3
  have e1 : ∀ (st ct ln : Int) (xs : List Nat), (part 3 (pkC st ct ln xs).toArray 0).run Tryz.prog w = .ok (.int .i64 st) w := fun st ct ln xs => part_int _ _ _ (by simp [pkC]) w
  have e2 : ∀ (st ct ln : Int) (xs : List Nat), (part 3 (pkC st ct ln xs).toArray 1).run Tryz.prog w = .ok (.int .i64 ct) w := fun st ct ln xs => part_int _ _ _ (by simp [pkC]) w
  have e3 : ∀ (st ct ln : Int) (xs : List Nat), (part 3 (pkC st ct ln xs).toArray 2).run Tryz.prog w = .ok (.int .i64 ln) w := fun st ct ln xs => part_int _ _ _ (by simp [pkC]) w
  have e4 := fun (a b : Int) => run_equalIn_int (P := Tryz.prog) w 9998 3 .i64 .i64 a b i3
  have e5 := eqFloats 9997 48 8 Tryz.underlying48 xs ys hx hy w
  have n1 : ("Station" : String) ≠ "_" := by decide
  have n2 : ("Counter" : String) ≠ "_" := by decide
  have n3 : ("Length" : String) ≠ "_" := by decide
  have n4 : ("Samples" : String) ≠ "_" := by decide
  unfold samePk
  simp only [eqTriples, if_pos n1, if_pos n2, if_pos n3, if_pos n4, Sem.run_bind, e1, e2, e3, e4, part_samples _ _ _ _ hx, part_samples _ _ _ _ hy, e5, Result.andThen_ok, Sem.run_ite, Sem.run_pure]
  cases st == st' <;> cases ct == ct' <;> cases ln == ln' <;> cases sameF xs ys <;> simp [e1, e2, e3, e4, part_samples _ _ _ _ hx, part_samples _ _ _ _ hy, e5]
theorem neqPk54 (st ct ln : Int) (xs : List Nat) (st' ct' ln' : Int) (ys : List Nat) (hx : xs.length = 8) (hy : ys.length = 8) (w : World) :
    (binOp .neq 54 (.agg (pkC st ct ln xs).toArray) (.agg (pkC st' ct' ln' ys).toArray)).run Tryz.prog w = .ok (.bool (!samePk st ct ln xs st' ct' ln' ys)) w := by
  rw [run_neq_struct, run_eqStruct w 9999 _ _ _ _ (by kernel_rfl) (by kernel_rfl) fields54, eqPk _ _ _ _ _ _ _ _ hx hy]; rfl
theorem neqPk50 (st ct ln : Int) (xs : List Nat) (st' ct' ln' : Int) (ys : List Nat) (hx : xs.length = 8) (hy : ys.length = 8) (w : World) :
    (binOp .neq 50 (.agg (pkC st ct ln xs).toArray) (.agg (pkC st' ct' ln' ys).toArray)).run Tryz.prog w = .ok (.bool (!samePk st ct ln xs st' ct' ln' ys)) w := by
  rw [run_neq_struct, run_eqStruct w 9999 _ _ _ _ (by kernel_rfl) (by kernel_rfl) fields50, eqPk _ _ _ _ _ _ _ _ hx hy]; rfl
end Go.Proofs.YtjgofnbfpoephaaGreatDoor

/- Contracts: the transform of four samples. -/
namespace Go.Proofs.YtjgofnbfpoephaaGreatDoor
set_option linter.all false
open Go.RowKit Go.Fl
set_option linter.unusedVariables false
set_option linter.unusedSimpArgs false

/-- the element k of the transform of the integers a, as far as the first n of them -/
def fourP (a : List Int) (k : Nat) : Nat → Int × Int
  | 0 => (0, 0)
  | n + 1 => ((fourP a k n).1 + a.getD n 0 * powR (k * n), (fourP a k n).2 + a.getD n 0 * powI (k * n))
theorem mul_small {x : Int} {M : Nat} (hx : x.natAbs ≤ M) {p : Int} (hp : p = 1 ∨ p = -1 ∨ p = 0) : (x * p).natAbs ≤ M := by
  rcases hp with rfl | rfl | rfl
  · simpa using hx
  · simpa using hx
  · simp
theorem fourP_bd (a : List Int) (k n : Nat) (ha : ∀ j, (a.getD j 0).natAbs ≤ 16384) : (fourP a k n).1.natAbs ≤ 16384 * n ∧ (fourP a k n).2.natAbs ≤ 16384 * n := by
  induction n with
  | zero => simp [fourP]
  | succ n ih =>
    have h1 := mul_small (ha n) (powR_or (k * n))
    have h2 := mul_small (ha n) (powI_or (k * n))
    simp only [fourP]
    omega

def cxs (ps : List (Nat × Nat)) : List Value := ps.map fun p => .complex .f32 p.1 p.2
theorem cxs_length (ps : List (Nat × Nat)) : (cxs ps).length = ps.length := by simp [cxs]
theorem cxs_set (ps : List (Nat × Nat)) (k r i : Nat) : (cxs ps).set k (.complex .f32 r i) = cxs (ps.set k (r, i)) := by simp [cxs, List.map_set]
theorem cxs_one (ps : List (Nat × Nat)) : ∀ v ∈ cxs ps, v.oneCell' = true := by
  intro v hv
  simp [cxs] at hv
  obtain ⟨x, y, _, rfl⟩ := hv
  rfl
/-- the elements below k are done, the element k as far as n, the others are 0 -/
def PaN (a : List Int) (k n j : Nat) : Int × Int := if j < k then fourP a j 4 else if j = k then fourP a k n else (0, 0)
def Pa (a : List Int) (k n : Nat) (ps : List (Nat × Nat)) : Prop := ps.length = 4 ∧ ∀ j (h : j < ps.length), S ps[j].1 (PaN a k n j).1 ∧ S ps[j].2 (PaN a k n j).2
theorem Pa.start (a : List Int) : Pa a 0 0 [(0, 0), (0, 0), (0, 0), (0, 0)] := by
  refine ⟨rfl, fun j h => ?_⟩
  have hz : PaN a 0 0 j = (0, 0) := by unfold PaN fourP; simp
  rw [hz]
  have : [((0 : Nat), (0 : Nat)), (0, 0), (0, 0), (0, 0)][j] = (0, 0) := by
    have h4 : j < 4 := h
    match j, h4 with
    | 0, _ => rfl
    | 1, _ => rfl
    | 2, _ => rfl
    | 3, _ => rfl
  rw [this]; exact ⟨S.zero, S.zero⟩
theorem Pa.next {a : List Int} {k : Nat} {ps : List (Nat × Nat)} (h : Pa a k 4 ps) : Pa a (k + 1) 0 ps := by
  refine ⟨h.1, fun j hj => ?_⟩
  have e : PaN a (k + 1) 0 j = PaN a k 4 j := by
    unfold PaN
    by_cases h1 : j < k
    · have : j < k + 1 := by omega
      simp [h1, this]
    · by_cases h2 : j = k
      · subst h2; simp
      · have h3 : ¬ j < k + 1 := by omega
        simp only [h1, h2, h3, if_false]
        by_cases h4 : j = k + 1 <;> simp [h4, fourP]
  rw [e]; exact h.2 j hj
theorem Pa.at {a : List Int} {k n : Nat} {ps : List (Nat × Nat)} (h : Pa a k n ps) (hk : k < 4) : ∃ r i, (cxs ps)[k]? = some (.complex .f32 r i) ∧ S r (fourP a k n).1 ∧ S i (fourP a k n).2 := by
  have hk' : k < ps.length := by rw [h.1]; exact hk
  obtain ⟨h1, h2⟩ := h.2 k hk'
  have e : PaN a k n k = fourP a k n := by unfold PaN; simp
  rw [e] at h1 h2
  exact ⟨ps[k].1, ps[k].2, by simp [cxs, hk'], h1, h2⟩
theorem Pa.step {a : List Int} {k n : Nat} {ps : List (Nat × Nat)} (h : Pa a k n ps) (hk : k < 4) {r i : Nat} (h1 : S r (fourP a k (n + 1)).1) (h2 : S i (fourP a k (n + 1)).2) : Pa a k (n + 1) (ps.set k (r, i)) := by
  refine ⟨by simpa using h.1, fun j hj => ?_⟩
  rw [List.getElem_set]
  by_cases hjk : k = j
  · subst hjk
    have e : PaN a k (n + 1) k = fourP a k (n + 1) := by unfold PaN; simp
    rw [if_pos rfl, e]; exact ⟨h1, h2⟩
  · rw [if_neg hjk]
    have e : PaN a k (n + 1) j = PaN a k n j := by unfold PaN; have : ¬ j = k := fun x => hjk x.symm; simp [this]
    rw [e]; exact h.2 j (by simpa using hj)

theorem info147 : (Tryz.prog.info? 147).map (·.size) = some 4 := by kernel_rfl
theorem info150 : (Tryz.prog.info? 150).map (·.size) = some 4 := by kernel_rfl

theorem power_at (z : Int) (n : Nat) (hz : z = n) (w : World) (hw : Pw w) (hn : n < 1000000) : Calls Tryz.prog 166 #[.int .i64 z] w fun e w' => e = .returned (.complex .f32 (pb (powR n)) (pb (powI n))) ∧ Below w.heap.size w w' := by
  subst hz; exact power_any n w hw hn

theorem Pw.set {w : World} (h : Pw w) {p : Addr} (hp : p.block ≠ 0) (u : Value) : Pw (w.setCell p u) := fun j v hv => (World.cell?_setCell_other w p _ u (fun e => hp (by rw [e]))).trans (h j v hv)
theorem keepF {wr w1 w2 : World} {p k : Nat} {t : TypeId} {vs : List Value} {v : Value} (hv : vs[k]? = some v)
    (h : w1.cell? ⟨p, k, none⟩ = some v ∧ w1.frozen? ⟨p, k, none⟩ = false ∧ Row w1 p t vs ∧ Below wr.heap.size wr w1 ∧ Pw w1) (hb : Below w1.heap.size w1 w2) :
    w2.cell? ⟨p, k, none⟩ = some v ∧ w2.frozen? ⟨p, k, none⟩ = false ∧ Row w2 p t vs ∧ Below wr.heap.size wr w2 ∧ Pw w2 := by
  obtain ⟨_, _, hr, hbb, hp⟩ := h
  have hr2 := hr.old hb
  exact ⟨by rw [hr2.cell]; exact hv, hr2.free k, hr2, hbb.trans (hb.mono hbb.size), hp.old hb⟩
theorem toF {wr : World} {p k : Nat} {t : TypeId} {vs : List Value} {v : Value} (hv : vs[k]? = some v) (hr : Row wr p t vs) (hp : Pw wr) :
    wr.cell? ⟨p, k, none⟩ = some v ∧ wr.frozen? ⟨p, k, none⟩ = false ∧ Row wr p t vs ∧ Below wr.heap.size wr wr ∧ Pw wr :=
  ⟨by rw [hr.cell]; exact hv, hr.free k, hr, Below.refl _ _, hp⟩

theorem index_four (x0 x1 x2 x3 : Nat) (n x : Nat) (hn : n < 4) (hx : [x0, x1, x2, x3][n]? = some x) (w : World) :
    (Instr.index 150 (.agg #[.float .f32 x0, .float .f32 x1, .float .f32 x2, .float .f32 x3]) (.int .i64 (n : Int))).run Tryz.prog w = .ok (.float .f32 x) w := by
  rcases (show n = 0 ∨ n = 1 ∨ n = 2 ∨ n = 3 by omega) with rfl | rfl | rfl | rfl
  all_goals (simp at hx; subst hx; kernel_rfl)
/-- one step of the inner loop, as it is reckoned -/
theorem four_run (a : List Int) (k n : Nat) (x r i : Nat) (ha : ∀ j, (a.getD j 0).natAbs ≤ 16384) (hn : n < 4) (hx : S x (a.getD n 0)) (hr : S r (fourP a k n).1) (hi : S i (fourP a k n).2) :
    ∃ r1 i1 r2 i2, (∀ w, (binOp .mul 146 (.complex .f32 x 0) (.complex .f32 (pb (powR (k * n))) (pb (powI (k * n))))).run Tryz.prog w = .ok (.complex .f32 r1 i1) w) ∧
      (∀ w, (binOp .add 146 (.complex .f32 r i) (.complex .f32 r1 i1)).run Tryz.prog w = .ok (.complex .f32 r2 i2) w) ∧ S r2 (fourP a k (n + 1)).1 ∧ S i2 (fourP a k (n + 1)).2 := by
  have p1 := powR_or (k * n)
  have p2 := powI_or (k * n)
  have b1 := mul_small (ha n) p1
  have b2 := mul_small (ha n) p2
  obtain ⟨r1, i1, s1, s2, hm⟩ := cmul (P := Tryz.prog) 146 hx S.zero (pb_spec _ p1) (pb_spec _ p2) (by omega) (by simp) (by omega) (by simp)
  have bd := fourP_bd a k (n + 1) ha
  have e1 : (fourP a k n).1 + (a.getD n 0 * powR (k * n) - 0 * powI (k * n)) = (fourP a k (n + 1)).1 := by simp [fourP]
  have e2 : (fourP a k n).2 + (a.getD n 0 * powI (k * n) + 0 * powR (k * n)) = (fourP a k (n + 1)).2 := by simp [fourP]
  obtain ⟨r2, i2, t1, t2, hs⟩ := cadd (P := Tryz.prog) 146 hr hi s1 s2 (by rw [e1]; omega) (by rw [e2]; omega)
  rw [e1] at t1; rw [e2] at t2
  exact ⟨r1, i1, r2, i2, hm, hs, t1, t2⟩

set_option maxRecDepth 100000 in
set_option maxHeartbeats 4000000 in
theorem four_ok (x0 x1 x2 x3 : Nat) (a : List Int) (w : World) (hw : Pw w) (ha : ∀ j, (a.getD j 0).natAbs ≤ 16384) (hS : ∀ j (h : j < [x0, x1, x2, x3].length), S [x0, x1, x2, x3][j] (a.getD j 0)) (h0 : sampsI [x0, x1, x2, x3] = 0) :
    Calls Tryz.prog 82 #[.agg #[.float .f32 x0, .float .f32 x1, .float .f32 x2, .float .f32 x3]] w fun e w' => ∃ ps, e = .returned (.tuple #[.agg (cxs ps).toArray, .int .i64 0]) ∧ Pa a 4 0 ps ∧ Below w.heap.size w w' := by
  have hg : 0 < w.heap.size := World.block_lt_of_cell? w _ (hw.at 0 1 rfl)
  have Hg := Lib.hid hg; clear hg
  have Hw := Lib.hid hw; have Ha := Lib.hid ha; have HS := Lib.hid hS; have H0 := Lib.hid h0
  clear hw ha hS h0
  go_enter Tryz.func82, Tryz.ntmps82
  go_wp2_with fail
  refine (checkSamples_any _ _ _ [x0, x1, x2, x3] _ ?_ rfl).mono ?_
  · exact Rd.below (Rd.new w (flts [x0, x1, x2, x3]).toArray 150 _ rfl) ((Below.refl _ _).alloc (Nat.le_refl _) _)
  rintro e w1 ⟨rfl, hb1⟩
  rw [H0.out]
  have hl : Row w1 w.heap.size 150 (flts [x0, x1, x2, x3]) := Row.old ((Row.new w 150 (flts [x0, x1, x2, x3])).alloc _) hb1
  have hres : Row w1 (w.heap.size + 1) 147 (cxs [(0, 0), (0, 0), (0, 0), (0, 0)]) := by
    have h := Row.new (w.alloc (.cells (flts [x0, x1, x2, x3]).toArray 150)) 147 (cxs [(0, 0), (0, 0), (0, 0), (0, 0)])
    rw [World.size_alloc] at h
    exact h.old hb1
  have hb0 : Below w.heap.size w w1 := (((Below.refl w.heap.size w).alloc (Nat.le_refl _) _).alloc (by simp) _).trans (hb1.mono (by simp; omega))
  have hp1 : Pw w1 := Hw.out.old hb0
  have hs1 : w.heap.size + 2 ≤ w1.heap.size := by have := hb1.size; simp at this; omega
  have Hl := Lib.hid hl; have Hres := Lib.hid hres; have Hb0 := Lib.hid hb0; have Hp1 := Lib.hid hp1
  clear hl hres hb0 hp1 hb1
  go_wp2
  go_loopw [15] (fun i wr => ∃ (k : Nat) (ps : List (Nat × Nat)), k ≤ 4 ∧ i = .int .i64 k ∧ Hid (Pa a k 0 ps) ∧ Row wr w1.heap.size 147 (cxs ps) ∧ Hid (Row wr w.heap.size 150 (flts [x0, x1, x2, x3])) ∧ Hid (Row wr (w.heap.size + 1) 147 (cxs [(0, 0), (0, 0), (0, 0), (0, 0)])) ∧ Hid (Pw wr) ∧ Hid (Below w.heap.size w wr)) (fun i _ => 4 - (intOf i).toNat)
  case atStart => exact ⟨0, _, Nat.zero_le _, rfl, Pa.start a, Row.new w1 147 (cxs [(0, 0), (0, 0), (0, 0), (0, 0)]), Hl.out.alloc _, Hres.out.alloc _, Hp1.out.old ((Below.refl _ _).alloc (Nat.le_refl _) _), Hb0.out.alloc (by omega) _⟩
  case round =>
    obtain ⟨k, ps, hk, rfl, hpa, hrow, hl, hres, hp, hb⟩ := hrel
    by_cases hlt : k < 4
    · have hl4 : Hid (wr.heap[w.heap.size]? = some (.cells #[.float .f32 x0, .float .f32 x1, .float .f32 x2, .float .f32 x3] 150 (0, 0))) := hl.out
      have Hrow := Lib.hid hrow
      clear hrow
      go_wp2_with (refine wpList_load_row rfl 150 _ rfl w.heap.size rfl 150 #[.float .f32 x0, .float .f32 x1, .float .f32 x2, .float .f32 x3] (0, 0) _ hl4.out Tryz.underlying150 rfl ?_ ?_; (rw [info150]; rfl))
      go_loopw [19] (fun i wn => ∃ (n : Nat) (qs : List (Nat × Nat)), n ≤ 4 ∧ i = .int .i64 n ∧ Hid (Pa a k n qs) ∧ Row wn w1.heap.size 147 (cxs qs) ∧ Hid (Row wn w.heap.size 150 (flts [x0, x1, x2, x3])) ∧ Hid (Row wn (w.heap.size + 1) 147 (cxs [(0, 0), (0, 0), (0, 0), (0, 0)])) ∧ Hid (Pw wn) ∧ Hid (Below w.heap.size w wn)) (fun i _ => 4 - (intOf i).toNat)
      case atStart => exact ⟨0, ps, Nat.zero_le _, rfl, hpa, Hrow.out, hl, hres, hp, hb⟩
      case round =>
        clear hl hres hp hb hpa Hrow hl4
        obtain ⟨n, qs, hn, rfl, hpa, hrow, hl, hres, hp, hb⟩ := hrel
        by_cases hlt2 : n < 4
        · obtain ⟨r, i, hv, sr, si⟩ := hpa.out.at hlt
          obtain ⟨z, hz⟩ : ∃ z, z = k * n := ⟨_, rfl⟩
          have hzi : (k : Int) * (n : Int) = (z : Int) := by rw [hz, Int.natCast_mul]
          have hzb : z < 1000000 := by
            have := Nat.mul_le_mul (show k ≤ 4 by omega) (show n ≤ 4 by omega); omega
          obtain ⟨x, hx, hxs⟩ : ∃ x, [x0, x1, x2, x3][n]? = some x ∧ S x (a.getD n 0) := by
            have h4 : n < [x0, x1, x2, x3].length := hlt2
            exact ⟨_, List.getElem?_eq_getElem h4, HS.out n h4⟩
          obtain ⟨r1, i1, r2, i2, hm, hs, s1, s2⟩ := four_run a k n x r i Ha.out hlt2 hxs sr si
          rw [← hz] at hm
          have hwr : IntKind.i64.wrap ((k : Int) * (n : Int)) = (z : Int) := by rw [hzi]; exact IntWalk.i64_in _ (by omega)
          clear hzi
          have Hzb := Lib.hid hzb
          clear hzb
          have hix := fun W => index_four x0 x1 x2 x3 n x hlt2 hx W
          have Hst := Lib.hid (hpa.out.step hlt s1 s2)
          have hset := Lib.hid (cxs_set qs k r2 i2)
          have Hv := Lib.hid hv
          clear sr si hxs s1 s2 hz hx hv
          have hS0 := toF (k := k) Hv.out hrow hp.out
          have hc := hS0.1
          have hf := hS0.2.1
          have Hrow := Lib.hid hrow
          have Hcall : Hid (Calls Tryz.prog 166 #[.int .i64 z] wr.drew fun e w' => e = .returned (.complex .f32 (pb (powR z)) (pb (powI z))) ∧ w'.cell? ⟨w1.heap.size, k, none⟩ = some (.complex .f32 r i) ∧ w'.frozen? ⟨w1.heap.size, k, none⟩ = false ∧ Hid (Row w' w1.heap.size 147 (cxs qs)) ∧ Hid (Below wr.heap.size wr w')) := by
            refine (power_any z wr.drew hp.out Hzb.out).mono ?_
            rintro e w' ⟨rfl, hb1⟩
            have h2 := keepF Hv.out hS0 ((Below.refl _ wr).drew.trans hb1)
            exact ⟨rfl, h2.1, h2.2.1, h2.2.2.1, h2.2.2.2.1⟩
          clear hrow hS0
          go_wp2
          go_region_with ((go_at_call 166; refine Hcall.out.mono ?_; rintro e w' ⟨rfl, hc', hf', hr', hb'⟩))
          all_goals go_wp2
          all_goals go_roundw
          all_goals first | (exact ⟨n + 1, qs.set k (r2, i2), by omega, by go_num, Hst.out, by rw [← hset.out]; exact hr'.out.set k _, (hl.out.old hb'.out).far (by simp; omega) _, (hres.out.old hb'.out).far (by simp; omega) _, (hp.out.old hb'.out).set (Nat.ne_of_gt (by have := Hg.out; show _ < w1.heap.size; omega)) _, (hb.out.trans (hb'.out.mono hb.out.size)).setCell (by simp; omega) _⟩) | (simp [intOf]; omega)
        · obtain rfl : n = 4 := by omega
          have Hrow := Lib.hid hrow
          clear hrow
          go_wp2
          go_roundw
          case rel => exact ⟨k + 1, qs, by omega, by go_num, hpa.out.next, Hrow.out, hl, hres, hp, hb⟩
          case measure => simp [intOf]; omega
    · obtain rfl : k = 4 := by omega
      have hlen : ps.length = 4 := hpa.out.1
      obtain ⟨vs, hvs⟩ : ∃ vs, vs = cxs ps := ⟨_, rfl⟩
      have h1 : ∀ v ∈ vs, v.oneCell' = true := by rw [hvs]; exact cxs_one ps
      have hvl : vs.length = 4 := by rw [hvs, cxs_length, hlen]
      rw [← hvs] at hrow
      have Hrow := Lib.hid hrow; have H1 := Lib.hid h1; have Hvl := Lib.hid hvl; have Hvs := Lib.hid hvs
      clear hrow h1 hvl hlen hvs
      go_wp2_with (first | (refine wpList_load_row rfl 147 _ rfl w1.heap.size rfl 147 vs.toArray (0, 0) _ Hrow.out Tryz.underlying147 rfl ?_ ?_; (rw [info147]; simp [Hvl.out])) | (refine wpList_store_row rfl 147 _ _ rfl (w.heap.size + 1) vs.toArray rfl rfl 147 _ hres.out ?_ ?_ ?_ ?_; (rw [info147]; simp [Hvl.out]); (simp [Hvl.out, cxs]); (simpa using H1.out)))
      refine bodyPost_ret (results_row_tmp rfl _ _ (w.heap.size + 1) 147 vs.toArray (0, 0) _ rfl (hres.out.setRow vs) Tryz.underlying147 rfl ?_) rfl ?_
      · rw [info147]; simp [Hvl.out]
      · exact ⟨ps, by rw [← Hvs.out]; rfl, hpa.out, Below.setRow hb.out (by simp) _⟩
end Go.Proofs.YtjgofnbfpoephaaGreatDoor

/- Contracts: are bytes sealed. -/
namespace Go.Proofs.YtjgofnbfpoephaaGreatDoor
set_option linter.all false
open Go.RowKit Go.Fl
set_option linter.unusedVariables false
set_option linter.unusedSimpArgs false

theorem keepC {W W' : World} {p : Addr} {v : Value} (h : W.cell? p = some v) (hb : Below W.heap.size W W') : W'.cell? p = some v := (hb.cell (World.block_lt_of_cell? W p h)).trans h

def uEq : Value → Value → Bool
  | .int _ a, .int _ b => a == b
  | _, _ => false
theorem all2_u8s : ∀ xs ys : List Int, all2 uEq (u8s xs) (u8s ys) = (xs == ys)
  | [], [] => rfl
  | x :: xs, y :: ys => by
    have := all2_u8s xs ys
    simp only [u8s, List.map_cons, all2, uEq] at this ⊢
    rw [this]; rfl
  | [], _ :: _ => rfl
  | _ :: _, [] => rfl
theorem u8s_getD (xs : List Int) (i : Nat) (h : i < (u8s xs).length) : (u8s xs).getD i undef = .int .u8 (xs.getD i 0) := by
  have h2 : i < xs.length := by simpa [u8s] using h
  simp [u8s, h2]
theorem isAgg5 (w : World) : (isAgg 5).run Tryz.prog w = .ok false w := by kernel_rfl
/-- arrays of bytes: whatever number of elements -/
theorem eqBytes (d : Nat) (t : TypeId) (n : Nat) (hu : Tryz.prog.underlying t = some (.array n 5)) (xs ys : List Int) (hx : xs.length = n) (hy : ys.length = n) (w : World) :
    (Op.equalIn (d + 2) t (.agg (u8s xs).toArray) (.agg (u8s ys).toArray)).run Tryz.prog w = .ok (xs == ys) w := by
  obtain ⟨i, hi, _⟩ := info_parts info5
  rw [run_eqArray w (d + 1) t 5 n i uEq (u8s xs) (u8s ys) hu hi (by kernel_rfl) (part_scalar w _ isAgg5) ?_ (by simpa [u8s] using hx) (by simpa [u8s] using hy), all2_u8s]
  intro j hj
  have hj2 : j < (u8s ys).length := by simp [u8s] at hj ⊢; omega
  rw [u8s_getD xs j hj, u8s_getD ys j hj2, run_equalIn_int w d _ .u8 .u8 _ _ Tryz.underlying5]
  rfl
theorem eqKey (xs ys : List Int) (hx : xs.length = 8) (hy : ys.length = 8) (w : World) : (binOp .eql 47 (.agg (u8s xs).toArray) (.agg (u8s ys).toArray)).run Tryz.prog w = .ok (.bool (xs == ys)) w := by
  rw [run_eql_struct, eqBytes 9998 47 8 Tryz.underlying47 xs ys hx hy w]; rfl

def natsI (bs : List UInt8) : List Int := bs.map fun b => (b.toNat : Int)
theorem byts_nats (bs : List UInt8) : byts bs = u8s (natsI bs) := by simp [byts, u8s, natsI]
/-- the last eight bytes are the seal of those before them -/
def sealedB (key : List Int) (bs : List UInt8) : Bool := natsI (bs.drop (bs.length - 8)) == sealL key (bs.take (bs.length - 8))

theorem slice_from {P : Program} (t : TypeId) (ht : P.underlying t = some (.slice (P.elem t))) (hs : ∀ w, (sizeOf (P.elem t)).run P w = .ok 1 w) (b off n c : Nat) (l : Int) (h0 : 0 ≤ l) (hl : l < n) (hn : n ≤ c) (w : World) :
    (Instr.slice t (.slice (some ⟨b, off, none⟩) n c) (some (.int .i64 l)) none none).run P w = .ok (.slice (some ⟨b, off + l.toNat, none⟩) (n - l.toNat) (c - l.toNat)) w := by
  rw [run_slice_l w t (some ⟨b, off, none⟩) n c ht .i64 l h0 (by omega), hs]
  simp only [Result.andThen, sliced, Nat.mul_one]
  have hne : ¬ c = l.toNat := by omega
  rw [if_neg hne]
  by_cases hj : l.toNat = 0
  · simp [Addr.add, hj]
  · simp [Addr.add, hj]

theorem keepIs {w1 W W' : World} {kb sb : Nat} {k0 k1 k2 k3 k4 k5 k6 k7 s0 s1 s2 s3 s4 s5 s6 s7 : Int} (h : W.cell? ⟨kb, 0, none⟩ = some (.int .u8 k0) ∧ W.cell? ⟨kb, 1, none⟩ = some (.int .u8 k1) ∧ W.cell? ⟨kb, 2, none⟩ = some (.int .u8 k2) ∧ W.cell? ⟨kb, 3, none⟩ = some (.int .u8 k3) ∧ W.cell? ⟨kb, 4, none⟩ = some (.int .u8 k4) ∧ W.cell? ⟨kb, 5, none⟩ = some (.int .u8 k5) ∧ W.cell? ⟨kb, 6, none⟩ = some (.int .u8 k6) ∧ W.cell? ⟨kb, 7, none⟩ = some (.int .u8 k7) ∧ W.cell? ⟨sb, 0, none⟩ = some (.int .u8 s0) ∧ W.cell? ⟨sb, 1, none⟩ = some (.int .u8 s1) ∧ W.cell? ⟨sb, 2, none⟩ = some (.int .u8 s2) ∧ W.cell? ⟨sb, 3, none⟩ = some (.int .u8 s3) ∧ W.cell? ⟨sb, 4, none⟩ = some (.int .u8 s4) ∧ W.cell? ⟨sb, 5, none⟩ = some (.int .u8 s5) ∧ W.cell? ⟨sb, 6, none⟩ = some (.int .u8 s6) ∧ W.cell? ⟨sb, 7, none⟩ = some (.int .u8 s7) ∧ Below w1.heap.size w1 W) (hb : Below W.heap.size W W') : W'.cell? ⟨kb, 0, none⟩ = some (.int .u8 k0) ∧ W'.cell? ⟨kb, 1, none⟩ = some (.int .u8 k1) ∧ W'.cell? ⟨kb, 2, none⟩ = some (.int .u8 k2) ∧ W'.cell? ⟨kb, 3, none⟩ = some (.int .u8 k3) ∧ W'.cell? ⟨kb, 4, none⟩ = some (.int .u8 k4) ∧ W'.cell? ⟨kb, 5, none⟩ = some (.int .u8 k5) ∧ W'.cell? ⟨kb, 6, none⟩ = some (.int .u8 k6) ∧ W'.cell? ⟨kb, 7, none⟩ = some (.int .u8 k7) ∧ W'.cell? ⟨sb, 0, none⟩ = some (.int .u8 s0) ∧ W'.cell? ⟨sb, 1, none⟩ = some (.int .u8 s1) ∧ W'.cell? ⟨sb, 2, none⟩ = some (.int .u8 s2) ∧ W'.cell? ⟨sb, 3, none⟩ = some (.int .u8 s3) ∧ W'.cell? ⟨sb, 4, none⟩ = some (.int .u8 s4) ∧ W'.cell? ⟨sb, 5, none⟩ = some (.int .u8 s5) ∧ W'.cell? ⟨sb, 6, none⟩ = some (.int .u8 s6) ∧ W'.cell? ⟨sb, 7, none⟩ = some (.int .u8 s7) ∧ Below w1.heap.size w1 W' :=
  ⟨keepC (h.1) hb, keepC (h.2.1) hb, keepC (h.2.2.1) hb, keepC (h.2.2.2.1) hb, keepC (h.2.2.2.2.1) hb, keepC (h.2.2.2.2.2.1) hb, keepC (h.2.2.2.2.2.2.1) hb, keepC (h.2.2.2.2.2.2.2.1) hb, keepC (h.2.2.2.2.2.2.2.2.1) hb, keepC (h.2.2.2.2.2.2.2.2.2.1) hb, keepC (h.2.2.2.2.2.2.2.2.2.2.1) hb, keepC (h.2.2.2.2.2.2.2.2.2.2.2.1) hb, keepC (h.2.2.2.2.2.2.2.2.2.2.2.2.1) hb, keepC (h.2.2.2.2.2.2.2.2.2.2.2.2.2.1) hb, keepC (h.2.2.2.2.2.2.2.2.2.2.2.2.2.2.1) hb, keepC (h.2.2.2.2.2.2.2.2.2.2.2.2.2.2.2.1) hb, (h.2.2.2.2.2.2.2.2.2.2.2.2.2.2.2.2).trans (hb.mono (h.2.2.2.2.2.2.2.2.2.2.2.2.2.2.2.2).size)⟩

theorem lastIs {w1 W : World} {kb sb : Nat} {k0 k1 k2 k3 k4 k5 k6 k7 s0 s1 s2 s3 s4 s5 s6 s7 : Int} (h : W.cell? ⟨kb, 0, none⟩ = some (.int .u8 k0) ∧ W.cell? ⟨kb, 1, none⟩ = some (.int .u8 k1) ∧ W.cell? ⟨kb, 2, none⟩ = some (.int .u8 k2) ∧ W.cell? ⟨kb, 3, none⟩ = some (.int .u8 k3) ∧ W.cell? ⟨kb, 4, none⟩ = some (.int .u8 k4) ∧ W.cell? ⟨kb, 5, none⟩ = some (.int .u8 k5) ∧ W.cell? ⟨kb, 6, none⟩ = some (.int .u8 k6) ∧ W.cell? ⟨kb, 7, none⟩ = some (.int .u8 k7) ∧ W.cell? ⟨sb, 0, none⟩ = some (.int .u8 s0) ∧ W.cell? ⟨sb, 1, none⟩ = some (.int .u8 s1) ∧ W.cell? ⟨sb, 2, none⟩ = some (.int .u8 s2) ∧ W.cell? ⟨sb, 3, none⟩ = some (.int .u8 s3) ∧ W.cell? ⟨sb, 4, none⟩ = some (.int .u8 s4) ∧ W.cell? ⟨sb, 5, none⟩ = some (.int .u8 s5) ∧ W.cell? ⟨sb, 6, none⟩ = some (.int .u8 s6) ∧ W.cell? ⟨sb, 7, none⟩ = some (.int .u8 s7) ∧ Below w1.heap.size w1 W) : Below w1.heap.size w1 W := h.2.2.2.2.2.2.2.2.2.2.2.2.2.2.2.2

set_option maxRecDepth 100000 in
set_option maxHeartbeats 2000000 in
theorem isSealed_any (k0 k1 k2 k3 k4 k5 k6 k7 : Int) (A : Option Addr) (n c : Nat) (bs : List UInt8) (w : World) (hA : Rd w A (byts bs)) (hn : n = bs.length) (hc : n ≤ c) (h8 : 8 ≤ bs.length) (hm : bs.length ≤ 9223372036854775807) (hkeys : ∀ j (h : j < 8), isByte ([k0, k1, k2, k3, k4, k5, k6, k7][j])) :
    Calls Tryz.prog 102 #[.agg #[.int .u8 k0, .int .u8 k1, .int .u8 k2, .int .u8 k3, .int .u8 k4, .int .u8 k5, .int .u8 k6, .int .u8 k7], .slice A n c] w fun e w' => e = .returned (.bool (sealedB [k0, k1, k2, k3, k4, k5, k6, k7] bs)) ∧ Below w.heap.size w w' := by
  subst hn
  obtain ⟨b, off, rfl⟩ : ∃ b off, A = some ⟨b, off, none⟩ := by
    obtain ⟨b, off, h, _⟩ := Rd.byte hA (show 0 < bs.length by omega)
    exact ⟨b, off, h⟩
  obtain ⟨m, hm8⟩ : ∃ m, bs.length = m + 8 := ⟨bs.length - 8, by omega⟩
  have hk := Lib.hid hkeys
  obtain ⟨tl, htl⟩ : ∃ tl, tl = bs.drop m := ⟨_, rfl⟩
  have htl8 : tl.length = 8 := by rw [htl]; simp; omega
  have hB : Hid (sealedB [k0, k1, k2, k3, k4, k5, k6, k7] bs = (natsI tl == sealL [k0, k1, k2, k3, k4, k5, k6, k7] (bs.take m))) := by
    unfold Hid sealedB
    rw [show bs.length - 8 = m by omega, htl]
  have hsrc : Hid (∀ j v, (byts tl)[j]? = some v → ∀ W, Below w.heap.size w W → W.cell? ((⟨b, off + m, none⟩ : Addr).add j) = some v) := by
    intro j v hv W hbW
    rw [htl] at hv
    have hv2 : (byts bs)[m + j]? = some v := by simpa [byts] using hv
    obtain ⟨b', off', hh, hcell⟩ := hA (m + j) v hv2
    cases hh
    have := (hbW.cell (World.block_lt_of_cell? w _ hcell)).trans hcell
    by_cases hj : j = 0
    · subst hj; simpa [Addr.add] using this
    · simpa [Addr.add, hj, Nat.add_assoc] using this
  have hA2 : Hid (Rd w (some ⟨b, off, none⟩) (byts (bs.take m))) := by have := hA.take m; simpa [byts, Hid] using this
  have hlen : bs.length = m + 8 := hm8
  have hsl := fun W => slice_from (P := Tryz.prog) 59 (by kernel_rfl) (fun _ => by kernel_rfl) b off bs.length c (m : Int) (by omega) (by omega) hc W
  have hst := fun W => slice_to (P := Tryz.prog) 59 (by kernel_rfl) 1 (fun _ => by kernel_rfl) (some ⟨b, off, none⟩) bs.length c (m : Int) (by omega) (by omega) W
  obtain ⟨L, hL⟩ : ∃ L, L = bs.length := ⟨_, rfl⟩
  rw [← hL] at hsl hst hc hlen hm ⊢
  have Hlen := Lib.hid hL
  clear hkeys htl hA hm8 h8 hL
  subst hlen
  have e1 : m + 8 - (m : Int).toNat = 8 := by omega
  have e2 : (m : Int).toNat = m := by omega
  simp only [e1, e2] at hsl hst
  clear e1 e2
  go_enter Tryz.func102, Tryz.ntmps102
  go_wp2
  have HF : Hid ((((w.alloc (.cells #[.int .u8 k0, .int .u8 k1, .int .u8 k2, .int .u8 k3, .int .u8 k4, .int .u8 k5, .int .u8 k6, .int .u8 k7] 47)).alloc (.cells (u8s [0, 0, 0, 0, 0, 0, 0, 0]).toArray 47)).drew).heap[w.heap.size + 1]? = some (.cells (u8s [0, 0, 0, 0, 0, 0, 0, 0]).toArray 47 (0, 0))) := by
    have h := Row.new (w.alloc (.cells #[.int .u8 k0, .int .u8 k1, .int .u8 k2, .int .u8 k3, .int .u8 k4, .int .u8 k5, .int .u8 k6, .int .u8 k7] 47)) 47 (u8s [0, 0, 0, 0, 0, 0, 0, 0])
    rw [World.size_alloc] at h
    exact h
  have HK : Hid (Row ((w.alloc (.cells #[.int .u8 k0, .int .u8 k1, .int .u8 k2, .int .u8 k3, .int .u8 k4, .int .u8 k5, .int .u8 k6, .int .u8 k7] 47)).alloc (.cells (u8s [0, 0, 0, 0, 0, 0, 0, 0]).toArray 47)) w.heap.size 47 (u8s [k0, k1, k2, k3, k4, k5, k6, k7])) := (Row.new w 47 (u8s [k0, k1, k2, k3, k4, k5, k6, k7])).alloc _
  have HB0 : Hid (Below (w.heap.size + 1) (w.alloc (.cells #[.int .u8 k0, .int .u8 k1, .int .u8 k2, .int .u8 k3, .int .u8 k4, .int .u8 k5, .int .u8 k6, .int .u8 k7] 47)) (((w.alloc (.cells #[.int .u8 k0, .int .u8 k1, .int .u8 k2, .int .u8 k3, .int .u8 k4, .int .u8 k5, .int .u8 k6, .int .u8 k7] 47)).alloc (.cells (u8s [0, 0, 0, 0, 0, 0, 0, 0]).toArray 47)).drew)) := by
    have h := ((Below.refl (w.alloc (.cells #[.int .u8 k0, .int .u8 k1, .int .u8 k2, .int .u8 k3, .int .u8 k4, .int .u8 k5, .int .u8 k6, .int .u8 k7] 47)).heap.size _).alloc (Nat.le_refl _) (.cells (u8s [0, 0, 0, 0, 0, 0, 0, 0]).toArray 47)).drew
    rw [World.size_alloc] at h
    exact h
  have HW : Hid (Below w.heap.size w (w.alloc (.cells #[.int .u8 k0, .int .u8 k1, .int .u8 k2, .int .u8 k3, .int .u8 k4, .int .u8 k5, .int .u8 k6, .int .u8 k7] 47))) := (Below.refl _ _).alloc (Nat.le_refl _) _
  have T8 : Hid (tl.length = 8) := htl8
  clear htl8
  go_region_law (refine step_copy_splice rfl (.tmp 10) (.tmp 13) 59 59 rfl 5 Tryz.underlying59 (by kernel_rfl) (some ⟨w.heap.size + 1, 0, none⟩) (some ⟨b, off + m, none⟩) 8 8 8 (c - m) (by simp [Act.eval, Act.put]) (by simp [Act.eval, Act.put]) (w.heap.size + 1) 0 (u8s [0, 0, 0, 0, 0, 0, 0, 0]) 47 HF.out (byts tl) (by simp [byts, T8.out]) (fun _ => ⟨rfl, _, rfl, fun j v hv => hsrc.out j v hv _ (HW.out.trans (HB0.out.mono (Nat.le_succ _)))⟩) (by simp [byts, u8s, T8.out]) (by simp [byts, Value.oneCell']) (w.heap.size + 1) (w.alloc (.cells #[.int .u8 k0, .int .u8 k1, .int .u8 k2, .int .u8 k3, .int .u8 k4, .int .u8 k5, .int .u8 k6, .int .u8 k7] 47)) HB0.out (Nat.le_refl _) ?_; intro w1 hg1 hb1)
  obtain ⟨t0, t1, t2, t3, t4, t5, t6, t7, rfl⟩ : ∃ t0 t1 t2 t3 t4 t5 t6 t7, tl = [t0, t1, t2, t3, t4, t5, t6, t7] := by
    have := T8.out
    match tl, this with
    | [a, b, c, d, e, f, g, h], _ => exact ⟨a, b, c, d, e, f, g, h, rfl⟩
  obtain ⟨s0, hs0⟩ : ∃ s0, s0 = (t0.toNat : Int) := ⟨_, rfl⟩
  obtain ⟨s1, hs1⟩ : ∃ s1, s1 = (t1.toNat : Int) := ⟨_, rfl⟩
  obtain ⟨s2, hs2⟩ : ∃ s2, s2 = (t2.toNat : Int) := ⟨_, rfl⟩
  obtain ⟨s3, hs3⟩ : ∃ s3, s3 = (t3.toNat : Int) := ⟨_, rfl⟩
  obtain ⟨s4, hs4⟩ : ∃ s4, s4 = (t4.toNat : Int) := ⟨_, rfl⟩
  obtain ⟨s5, hs5⟩ : ∃ s5, s5 = (t5.toNat : Int) := ⟨_, rfl⟩
  obtain ⟨s6, hs6⟩ : ∃ s6, s6 = (t6.toNat : Int) := ⟨_, rfl⟩
  obtain ⟨s7, hs7⟩ : ∃ s7, s7 = (t7.toNat : Int) := ⟨_, rfl⟩
  have hrowS : Row w1 (w.heap.size + 1) 47 (u8s [s0, s1, s2, s3, s4, s5, s6, s7]) := by
    have h := hg1.out
    rw [show splice (u8s [0, 0, 0, 0, 0, 0, 0, 0]) 0 (byts [t0, t1, t2, t3, t4, t5, t6, t7]) = u8s [s0, s1, s2, s3, s4, s5, s6, s7] by rw [hs0, hs1, hs2, hs3, hs4, hs5, hs6, hs7]; rfl] at h
    exact h
  have hrowK : Row w1 w.heap.size 47 (u8s [k0, k1, k2, k3, k4, k5, k6, k7]) := ((Row.new w 47 (u8s [k0, k1, k2, k3, k4, k5, k6, k7])).below hb1 (by omega))
  have hbw : Below w.heap.size w w1 := HW.out.trans (hb1.mono (by omega))
  have hRd : Rd w1 (some ⟨b, off, none⟩) (byts (bs.take m)) := hA2.out.below hbw
  have hsz : w.heap.size + 1 < w1.heap.size := hrowS.lt
  have hnat : natsI [t0, t1, t2, t3, t4, t5, t6, t7] = [s0, s1, s2, s3, s4, s5, s6, s7] := by rw [hs0, hs1, hs2, hs3, hs4, hs5, hs6, hs7]; rfl
  obtain ⟨l, hl⟩ : ∃ l, l = sealL [k0, k1, k2, k3, k4, k5, k6, k7] (bs.take m) := ⟨_, rfl⟩
  have hll : l.length = 8 := by rw [hl]; simp [sealL, sealGo_length]
  have hB2 : Hid (sealedB [k0, k1, k2, k3, k4, k5, k6, k7] bs = ([s0, s1, s2, s3, s4, s5, s6, s7] == l)) := by unfold Hid; rw [hB.out, hnat, hl]
  have heq : ∀ W, (binOp .eql 47 (.agg #[.int .u8 s0, .int .u8 s1, .int .u8 s2, .int .u8 s3, .int .u8 s4, .int .u8 s5, .int .u8 s6, .int .u8 s7]) (.agg (u8s l).toArray)).run Tryz.prog W = .ok (.bool ([s0, s1, s2, s3, s4, s5, s6, s7] == l)) W := fun W => eqKey [s0, s1, s2, s3, s4, s5, s6, s7] l rfl hll W
  have hmt : Hid (m = (bs.take m).length) := by unfold Hid; have := Hlen.out; simp; omega
  have hmm : Hid ((bs.take m).length ≤ 9223372036854775807) := by unfold Hid; rw [← hmt.out]; omega
  have S0 : w1.cell? ⟨w.heap.size, 0, none⟩ = some (.int .u8 k0) ∧ w1.cell? ⟨w.heap.size, 1, none⟩ = some (.int .u8 k1) ∧ w1.cell? ⟨w.heap.size, 2, none⟩ = some (.int .u8 k2) ∧ w1.cell? ⟨w.heap.size, 3, none⟩ = some (.int .u8 k3) ∧ w1.cell? ⟨w.heap.size, 4, none⟩ = some (.int .u8 k4) ∧ w1.cell? ⟨w.heap.size, 5, none⟩ = some (.int .u8 k5) ∧ w1.cell? ⟨w.heap.size, 6, none⟩ = some (.int .u8 k6) ∧ w1.cell? ⟨w.heap.size, 7, none⟩ = some (.int .u8 k7) ∧ w1.cell? ⟨w.heap.size + 1, 0, none⟩ = some (.int .u8 s0) ∧ w1.cell? ⟨w.heap.size + 1, 1, none⟩ = some (.int .u8 s1) ∧ w1.cell? ⟨w.heap.size + 1, 2, none⟩ = some (.int .u8 s2) ∧ w1.cell? ⟨w.heap.size + 1, 3, none⟩ = some (.int .u8 s3) ∧ w1.cell? ⟨w.heap.size + 1, 4, none⟩ = some (.int .u8 s4) ∧ w1.cell? ⟨w.heap.size + 1, 5, none⟩ = some (.int .u8 s5) ∧ w1.cell? ⟨w.heap.size + 1, 6, none⟩ = some (.int .u8 s6) ∧ w1.cell? ⟨w.heap.size + 1, 7, none⟩ = some (.int .u8 s7) ∧ Below w1.heap.size w1 w1 :=
    ⟨by rw [hrowK.cell]; rfl, by rw [hrowK.cell]; rfl, by rw [hrowK.cell]; rfl, by rw [hrowK.cell]; rfl, by rw [hrowK.cell]; rfl, by rw [hrowK.cell]; rfl, by rw [hrowK.cell]; rfl, by rw [hrowK.cell]; rfl, by rw [hrowS.cell]; rfl, by rw [hrowS.cell]; rfl, by rw [hrowS.cell]; rfl, by rw [hrowS.cell]; rfl, by rw [hrowS.cell]; rfl, by rw [hrowS.cell]; rfl, by rw [hrowS.cell]; rfl, by rw [hrowS.cell]; rfl, Below.refl _ _⟩
  have HS0 := Lib.hid S0; have HRd := Lib.hid hRd; have Hbw := Lib.hid hbw; have Hl := Lib.hid hl
  have Hsz := Lib.hid hsz
  obtain ⟨bv, hbv⟩ : ∃ bv, bv = ([s0, s1, s2, s3, s4, s5, s6, s7] == l) := ⟨_, rfl⟩
  rw [← hbv] at heq hB2
  clear hs0 hs1 hs2 hs3 hs4 hs5 hs6 hs7 hrowS hrowK hbw hRd hsz hnat hl hll hB hsrc HF HB0 HK hb1 hg1 T8 hm hc hbv S0
  go_wp2
  go_region_held3 (fun w' => w'.cell? ⟨w.heap.size, 0, none⟩ = some (.int .u8 k0) ∧ w'.cell? ⟨w.heap.size, 1, none⟩ = some (.int .u8 k1) ∧ w'.cell? ⟨w.heap.size, 2, none⟩ = some (.int .u8 k2) ∧ w'.cell? ⟨w.heap.size, 3, none⟩ = some (.int .u8 k3) ∧ w'.cell? ⟨w.heap.size, 4, none⟩ = some (.int .u8 k4) ∧ w'.cell? ⟨w.heap.size, 5, none⟩ = some (.int .u8 k5) ∧ w'.cell? ⟨w.heap.size, 6, none⟩ = some (.int .u8 k6) ∧ w'.cell? ⟨w.heap.size, 7, none⟩ = some (.int .u8 k7) ∧ w'.cell? ⟨w.heap.size + 1, 0, none⟩ = some (.int .u8 s0) ∧ w'.cell? ⟨w.heap.size + 1, 1, none⟩ = some (.int .u8 s1) ∧ w'.cell? ⟨w.heap.size + 1, 2, none⟩ = some (.int .u8 s2) ∧ w'.cell? ⟨w.heap.size + 1, 3, none⟩ = some (.int .u8 s3) ∧ w'.cell? ⟨w.heap.size + 1, 4, none⟩ = some (.int .u8 s4) ∧ w'.cell? ⟨w.heap.size + 1, 5, none⟩ = some (.int .u8 s5) ∧ w'.cell? ⟨w.heap.size + 1, 6, none⟩ = some (.int .u8 s6) ∧ w'.cell? ⟨w.heap.size + 1, 7, none⟩ = some (.int .u8 s7) ∧ Below w1.heap.size w1 w') (first | assumption | exact keepIs HS0.out (Below.drew (Below.refl _ _)) | exact keepIs (by assumption) (Below.drew (Below.refl _ _)) | exact keepIs (by assumption) (below_drewN (Below.refl _ _) _) | exact keepIs (by assumption) (by assumption) | exact keepIs (by assumption) ((Below.refl _ _).alloc (Nat.le_refl _) _))
    (first | (go_at_call 101; refine (sealed_any k0 k1 k2 k3 k4 k5 k6 k7 (some ⟨b, off, none⟩) m c (bs.take m) _ (HRd.out.below ?_) hmt.out hmm.out hk.out).mono ?_; (exact lastIs (by assumption)); (rintro e w2 ⟨rfl, hb2⟩; rw [keyV, ← Hl.out])))
  all_goals go_wp2
  all_goals go_ret
  all_goals exact ⟨ret_bool hB2.out.symm, Hbw.out.trans ((lastIs (by assumption)).mono (by have := Hsz.out; omega))⟩
end Go.Proofs.YtjgofnbfpoephaaGreatDoor
