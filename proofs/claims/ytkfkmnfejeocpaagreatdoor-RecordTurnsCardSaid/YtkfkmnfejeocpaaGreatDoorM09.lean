import Derived.Test.YtkfkmnfejeocpaaGreatDoorM07
import Derived.ChangeKeysEq
import Derived.Test.YtkfkmnfejeocpaaGreatDoorM06
import Derived.Maps.AppendAt
import Derived.Laws.OwnMore
import Derived.IntWalk
/- Arrays of numbers, and packets, are compared element by element. -/
namespace Go.Proofs.YtkfkmnfejeocpaaGreatDoor
set_option linter.all false
open Go.RowKit Go.Fl
set_option linter.unusedVariables false
set_option linter.unusedSimpArgs false

section
variable {P : Program} (w : World)
/-- element by element -/
def all2 (f : Value → Value → Bool) : List Value → List Value → Bool
  | [], [] => true
  | x :: xs, y :: ys => f x y && all2 f xs ys
  | _, _ => false
theorem all2_range (f : Value → Value → Bool) : ∀ (xs ys : List Value), xs.length = ys.length → ((List.range xs.length).all fun i => f (xs.getD i undef) (ys.getD i undef)) = all2 f xs ys
  | [], [], _ => rfl
  | x :: xs, y :: ys, h => by
    rw [all2, ← all2_range f xs ys (by simpa using h), List.length_cons, List.range_succ_eq_map]
    simp
    rfl
  | [], _ :: _, h => by simp at h
  | _ :: _, [], h => by simp at h

theorem run_eqItems (d : Nat) (e : TypeId) (c : Nat) (hc : c = 1) (f : Value → Value → Bool) (xs ys : List Value) (hp : ∀ (zs : List Value) (i : Nat), i < zs.length → (part e zs.toArray (i * 1)).run P w = .ok (zs.getD i undef) w)
    (hf : ∀ i, i < xs.length → (Op.equalIn d e (xs.getD i undef) (ys.getD i undef)).run P w = .ok (f (xs.getD i undef) (ys.getD i undef)) w) (hl : xs.length = ys.length) :
    ∀ l : List Nat, (∀ i ∈ l, i < xs.length) → (Op.eqItems d e c xs.toArray ys.toArray l).run P w = .ok (l.all fun i => f (xs.getD i undef) (ys.getD i undef)) w := by
  subst hc
  intro l
  induction l with
  | nil => intro _; simp [Op.eqItems]
  | cons i l ih =>
    intro h
    have hi := h i (by simp)
    simp only [Op.eqItems, Sem.run_bind, hp xs i hi, hp ys i (hl ▸ hi), hf i hi, Result.andThen_ok, List.all_cons]
    cases f (xs.getD i undef) (ys.getD i undef)
    · simp
    · simp only [Bool.not_true, Bool.false_eq_true, if_false, Bool.true_and]
      exact ih fun j hj => h j (by simp [hj])

theorem run_eqArray (d : Nat) (t e : TypeId) (n : Nat) (i : TypeInfo) (f : Value → Value → Bool) (xs ys : List Value) (hu : P.underlying t = some (.array n e)) (hi : P.info? e = some i) (hc : P.cellsOf e = 1)
    (hp : ∀ (zs : List Value) (i : Nat), i < zs.length → (part e zs.toArray (i * 1)).run P w = .ok (zs.getD i undef) w)
    (hf : ∀ i, i < xs.length → (Op.equalIn d e (xs.getD i undef) (ys.getD i undef)).run P w = .ok (f (xs.getD i undef) (ys.getD i undef)) w) (hx : xs.length = n) (hy : ys.length = n) :
    (Op.equalIn (d + 1) t (.agg xs.toArray) (.agg ys.toArray)).run P w = .ok (all2 f xs ys) w := by
  rw [run_equalIn_array w d xs.toArray ys.toArray hu hi, run_eqItems w d e _ hc f xs ys hp hf (hx.trans hy.symm) _ (fun i hi => by rw [hx]; exact List.mem_range.1 hi), ← hx, all2_range f xs ys (hx.trans hy.symm)]

theorem run_equalIn_float (d : Nat) (t : TypeId) (k k' : FloatKind) (a b : Nat) (h : P.underlying t = some (.float k')) : (Op.equalIn (d + 1) t (.float k a) (.float k b)).run P w = .ok (k.format.order a b == some .eq) w := by
  simp [Op.equalIn, run_underlying h, Op.floatEq]
theorem run_equalIn_complex (d : Nat) (t : TypeId) (k k' : FloatKind) (a b c e : Nat) (h : P.underlying t = some (.complex k')) : (Op.equalIn (d + 1) t (.complex k a b) (.complex k c e)).run P w = .ok ((k.format.order a c == some .eq) && (k.format.order b e == some .eq)) w := by
  simp [Op.equalIn, run_underlying h, Op.floatEq]
theorem part_scalar (e : TypeId) (h : ∀ w, (isAgg e).run P w = .ok false w) (zs : List Value) (i : Nat) (hi : i < zs.length) : (part e zs.toArray (i * 1)).run P w = .ok (zs.getD i undef) w := by
  simp [part, h, hi]
end

def fEq : Value → Value → Bool
  | .float _ a, .float _ b => FloatKind.f32.format.order a b == some .eq
  | _, _ => false
theorem all2_flts : ∀ xs ys : List Nat, all2 fEq (flts xs) (flts ys) = sameF xs ys
  | [], [] => rfl
  | x :: xs, y :: ys => by
    have := all2_flts xs ys
    simp only [flts, List.map_cons, all2, sameF, fEq] at this ⊢
    rw [this]
  | [], _ :: _ => rfl
  | _ :: _, [] => rfl
theorem flts_getD (xs : List Nat) (i : Nat) (h : i < (flts xs).length) : (flts xs).getD i undef = .float .f32 (xs.getD i 0) := by
  have h2 : i < xs.length := by simpa [flts] using h
  simp [flts, h2]

theorem isAgg37 (w : World) : (isAgg 27).run Tryz.prog w = .ok false w := by kernel_rfl
/-- [8]float32 (and [4]): whatever number of elements -/
theorem eqFloats (d : Nat) (t : TypeId) (n : Nat) (hu : Tryz.prog.underlying t = some (.array n 27)) (xs ys : List Nat) (hx : xs.length = n) (hy : ys.length = n) (w : World) :
    (Op.equalIn (d + 2) t (.agg (flts xs).toArray) (.agg (flts ys).toArray)).run Tryz.prog w = .ok (sameF xs ys) w := by
  obtain ⟨i, hi, _⟩ := info_parts info37
  rw [run_eqArray w (d + 1) t 27 n i fEq (flts xs) (flts ys) hu hi (by kernel_rfl) (part_scalar w _ isAgg37) ?_ (by simpa [flts] using hx) (by simpa [flts] using hy), all2_flts]
  intro j hj
  have hj2 : j < (flts ys).length := by simp [flts] at hj ⊢; omega
  rw [flts_getD xs j hj, flts_getD ys j hj2, run_equalIn_float w d _ .f32 .f32 _ _ Tryz.underlying27]
  rfl

def samePk (st ct ln : Int) (xs : List Nat) (st' ct' ln' : Int) (ys : List Nat) : Bool := st == st' && (ct == ct' && (ln == ln' && sameF xs ys))
theorem extract_pk (st ct ln : Int) (xs : List Nat) (hx : xs.length = 8) : (pkC st ct ln xs).toArray.extract 3 11 = (flts xs).toArray := by
  match xs, hx with
  | [_, _, _, _, _, _, _, _], _ => rfl

section
variable {P : Program} (w : World)
/-- the fields of a struct, by name, type and place -/
def eqTriples (d : Nat) (xs ys : Array Value) : List (String × TypeId × Nat) → Sem Bool
  | [] => pure true
  | f :: fs =>
    if f.1 ≠ "_" then do
      let a ← part f.2.1 xs f.2.2
      let b ← part f.2.1 ys f.2.2
      let r ← Op.equalIn d f.2.1 a b
      if (!r) = true then pure false else eqTriples d xs ys fs
    else eqTriples d xs ys fs
theorem eqFields_triples (d : Nat) (xs ys : Array Value) (fs : List Field) : Op.eqFields d xs ys fs = eqTriples d xs ys (fs.map fun f => (f.name, f.type, f.offset)) := by
  induction fs with
  | nil => rfl
  | cons f fs ih => simp only [Op.eqFields, eqTriples, List.map_cons, ih]
theorem run_eqStruct (d : Nat) (t : TypeId) (xs ys : Array Value) (l : List (String × TypeId × Nat)) (ht : P.underlying t = some (.struct (P.fieldsOf t))) (hp : P.stoodInHeld t = false) (hl : ((P.fieldsOf t).toList.map fun f => (f.name, f.type, f.offset)) = l) :
    (Op.equalIn (d + 1) t (.agg xs) (.agg ys)).run P w = (eqTriples d xs ys l).run P w := by
  rw [run_equalIn_struct w d t xs ys ht hp, eqFields_triples, hl]
end

theorem isAgg3 (w : World) : (isAgg 3).run Tryz.prog w = .ok false w := by kernel_rfl
theorem isAgg48 (w : World) : (isAgg 65).run Tryz.prog w = .ok true w := by kernel_rfl
theorem size48 (w : World) : (sizeOf 65).run Tryz.prog w = .ok 8 w := by kernel_rfl
theorem part_int (cs : Array Value) (i : Nat) (v : Value) (h : cs[i]? = some v) (w : World) : (part 3 cs i).run Tryz.prog w = .ok v w := by
  simp [part, isAgg3, h]
theorem part_samples (st ct ln : Int) (xs : List Nat) (hx : xs.length = 8) (w : World) : (part 65 (pkC st ct ln xs).toArray 3).run Tryz.prog w = .ok (.agg (flts xs).toArray) w := by
  have h := extract_pk st ct ln xs hx
  unfold part
  simp only [Sem.run_bind, isAgg48, Result.andThen_ok, if_true, size48, Sem.run_pure]
  rw [show 3 + 8 = 11 from rfl, h]
theorem fields54 : ((Tryz.prog.fieldsOf 67).toList.map fun f => (f.name, f.type, f.offset)) = [("Station", 3, 0), ("Counter", 3, 1), ("Length", 3, 2), ("Samples", 65, 3)] := by kernel_rfl
theorem eqPk (st ct ln : Int) (xs : List Nat) (st' ct' ln' : Int) (ys : List Nat) (hx : xs.length = 8) (hy : ys.length = 8) (w : World) :
    (eqTriples 9999 (pkC st ct ln xs).toArray (pkC st' ct' ln' ys).toArray [("Station", 3, 0), ("Counter", 3, 1), ("Length", 3, 2), ("Samples", 65, 3)]).run Tryz.prog w = .ok (samePk st ct ln xs st' ct' ln' ys) w := by
  have i3 := Tryz.underlying3
  have e1 : ∀ (st ct ln : Int) (xs : List Nat), (part 3 (pkC st ct ln xs).toArray 0).run Tryz.prog w = .ok (.int .i64 st) w := fun st ct ln xs => part_int _ _ _ (by simp [pkC]) w
  have e2 : ∀ (st ct ln : Int) (xs : List Nat), (part 3 (pkC st ct ln xs).toArray 1).run Tryz.prog w = .ok (.int .i64 ct) w := fun st ct ln xs => part_int _ _ _ (by simp [pkC]) w
  have e3 : ∀ (st ct ln : Int) (xs : List Nat), (part 3 (pkC st ct ln xs).toArray 2).run Tryz.prog w = .ok (.int .i64 ln) w := fun st ct ln xs => part_int _ _ _ (by simp [pkC]) w
  have e4 := fun (a b : Int) => run_equalIn_int (P := Tryz.prog) w 9998 3 .i64 .i64 a b i3
  have e5 := eqFloats 9997 65 8 Tryz.underlying65 xs ys hx hy w
  have n1 : ("Station" : String) ≠ "_" := by decide
  have n2 : ("Counter" : String) ≠ "_" := by decide
  have n3 : ("Length" : String) ≠ "_" := by decide
  have n4 : ("Samples" : String) ≠ "_" := by decide
  unfold samePk
  simp only [eqTriples, if_pos n1, if_pos n2, if_pos n3, if_pos n4, Sem.run_bind, e1, e2, e3, e4, part_samples _ _ _ _ hx, part_samples _ _ _ _ hy, e5, Result.andThen_ok, Sem.run_ite, Sem.run_pure]
  cases st == st' <;> cases ct == ct' <;> cases ln == ln' <;> cases sameF xs ys <;> simp [e1, e2, e3, e4, part_samples _ _ _ _ hx, part_samples _ _ _ _ hy, e5]
theorem neqPk54 (st ct ln : Int) (xs : List Nat) (st' ct' ln' : Int) (ys : List Nat) (hx : xs.length = 8) (hy : ys.length = 8) (w : World) :
    (binOp .neq 67 (.agg (pkC st ct ln xs).toArray) (.agg (pkC st' ct' ln' ys).toArray)).run Tryz.prog w = .ok (.bool (!samePk st ct ln xs st' ct' ln' ys)) w := by
  rw [run_neq_struct, run_eqStruct w 9999 _ _ _ _ (by kernel_rfl) (by kernel_rfl) fields54, eqPk _ _ _ _ _ _ _ _ hx hy]; rfl
end Go.Proofs.YtkfkmnfejeocpaaGreatDoor

/- Contracts: four samples out of their transform. -/
namespace Go.Proofs.YtkfkmnfejeocpaaGreatDoor
set_option linter.all false
open Go.RowKit Go.Fl
set_option linter.unusedVariables false
set_option linter.unusedSimpArgs false

/-- the sum of the first k elements of the transform of a, each turned for the sample n -/
def unP (a : List Int) (n : Nat) : Nat → Int × Int
  | 0 => (0, 0)
  | k + 1 => ((unP a n k).1 + ((fourP a k 4).1 * powR (3 * k * n) - (fourP a k 4).2 * powI (3 * k * n)), (unP a n k).2 + ((fourP a k 4).1 * powI (3 * k * n) + (fourP a k 4).2 * powR (3 * k * n)))
theorem unP_bd (a : List Int) (n k : Nat) (ha : ∀ j, (a.getD j 0).natAbs ≤ 16384) : (unP a n k).1.natAbs ≤ 131072 * k ∧ (unP a n k).2.natAbs ≤ 131072 * k := by
  induction k with
  | zero => simp [unP]
  | succ k ih =>
    have hb := fourP_bd a k 4 ha
    have h1 := mul_small (M := 65536) (by omega) (p := powR (3 * k * n)) (powR_or _) (x := (fourP a k 4).1)
    have h2 := mul_small (M := 65536) (by omega) (p := powI (3 * k * n)) (powI_or _) (x := (fourP a k 4).2)
    have h3 := mul_small (M := 65536) (by omega) (p := powI (3 * k * n)) (powI_or _) (x := (fourP a k 4).1)
    have h4 := mul_small (M := 65536) (by omega) (p := powR (3 * k * n)) (powR_or _) (x := (fourP a k 4).2)
    simp only [unP]
    omega
theorem unP_all (a : List Int) (n : Nat) (hn : n < 4) : (unP a n 4).1 = 4 * a.getD n 0 := by
  rcases (show n = 0 ∨ n = 1 ∨ n = 2 ∨ n = 3 by omega) with rfl | rfl | rfl | rfl
  all_goals
    simp [unP, fourP, powR, powI]
    omega

theorem index_panel (r0 i0 r1 i1 r2 i2 r3 i3 : Nat) (k r i : Nat) (hk : k < 4) (hx : [(r0, i0), (r1, i1), (r2, i2), (r3, i3)][k]? = some (r, i)) (w : World) :
    (Instr.index 31 (.agg #[.complex .f32 r0 i0, .complex .f32 r1 i1, .complex .f32 r2 i2, .complex .f32 r3 i3]) (.int .i64 (k : Int))).run Tryz.prog w = .ok (.complex .f32 r i) w := by
  rcases (show k = 0 ∨ k = 1 ∨ k = 2 ∨ k = 3 by omega) with rfl | rfl | rfl | rfl
  all_goals (simp at hx; obtain ⟨rfl, rfl⟩ := hx; kernel_rfl)

theorem unfour_run (a : List Int) (n k r i sr si z : Nat) (hz : z = 3 * k * n) (ha : ∀ j, (a.getD j 0).natAbs ≤ 16384) (hk : k < 4) (hr : S r (fourP a k 4).1) (hi : S i (fourP a k 4).2) (h1 : S sr (unP a n k).1) (h2 : S si (unP a n k).2) :
    ∃ r1 i1 r2 i2, (∀ w, (binOp .mul 30 (.complex .f32 r i) (.complex .f32 (pb (powR z)) (pb (powI z)))).run Tryz.prog w = .ok (.complex .f32 r1 i1) w) ∧
      (∀ w, (binOp .add 30 (.complex .f32 sr si) (.complex .f32 r1 i1)).run Tryz.prog w = .ok (.complex .f32 r2 i2) w) ∧ S r2 (unP a n (k + 1)).1 ∧ S i2 (unP a n (k + 1)).2 := by
  subst hz
  have p1 := powR_or (3 * k * n)
  have p2 := powI_or (3 * k * n)
  have hb := fourP_bd a k 4 ha
  have b1 := mul_small (M := 65536) (by omega) p1 (x := (fourP a k 4).1)
  have b2 := mul_small (M := 65536) (by omega) p2 (x := (fourP a k 4).2)
  have b3 := mul_small (M := 65536) (by omega) p2 (x := (fourP a k 4).1)
  have b4 := mul_small (M := 65536) (by omega) p1 (x := (fourP a k 4).2)
  obtain ⟨r1, i1, s1, s2, hm⟩ := cmul (P := Tryz.prog) 30 hr hi (pb_spec _ p1) (pb_spec _ p2) (by omega) (by omega) (by omega) (by omega)
  have bd := unP_bd a n (k + 1) ha
  obtain ⟨r2, i2, t1, t2, hs⟩ := cadd (P := Tryz.prog) 30 h1 h2 s1 s2 (by have := bd.1; simp only [unP] at this; omega) (by have := bd.2; simp only [unP] at this; omega)
  exact ⟨r1, i1, r2, i2, hm, hs, t1, t2⟩

/-- done as far as n: the others are 0 -/
def UnQ (a : List Int) (n : Nat) (ys : List Nat) : Prop := ys.length = 4 ∧ ∀ j (h : j < ys.length), S ys[j] (if j < n then a.getD j 0 else 0)
theorem UnQ.start (a : List Int) : UnQ a 0 [0, 0, 0, 0] := by
  refine ⟨rfl, fun j h => ?_⟩
  have h4 : j < 4 := h
  have : [0, 0, 0, 0][j] = 0 := by
    rcases (show j = 0 ∨ j = 1 ∨ j = 2 ∨ j = 3 by omega) with rfl | rfl | rfl | rfl <;> rfl
  rw [this]; simpa using S.zero
theorem UnQ.step {a : List Int} {n : Nat} {ys : List Nat} (h : UnQ a n ys) {y : Nat} (hy : S y (a.getD n 0)) : UnQ a (n + 1) (ys.set n y) := by
  refine ⟨by simpa using h.1, fun j hj => ?_⟩
  rw [List.getElem_set]
  by_cases hjn : n = j
  · subst hjn; simpa using hy
  · rw [if_neg hjn]
    have e : (j < n + 1) = (j < n) := by apply propext; omega
    simp only [e]
    exact h.2 j (by simpa using hj)
theorem flts_set (ys : List Nat) (n y : Nat) : (flts ys).set n (.float .f32 y) = flts (ys.set n y) := by simp [flts, List.map_set]

def cEq : Value → Value → Bool
  | .complex _ a b, .complex _ c d => (FloatKind.f32.format.order a c == some .eq) && (FloatKind.f32.format.order b d == some .eq)
  | _, _ => false
theorem isAgg146 (w : World) : (isAgg 30).run Tryz.prog w = .ok false w := by kernel_rfl
theorem info146 : (Tryz.prog.info? 30).map (fun i => (i.zero, i.size, i.bytes)) = some (some (.complex .f32 0 0), 1, 8) := by kernel_rfl
theorem all2_cEq : ∀ (ps qs : List (Nat × Nat)), ps.length = qs.length → (∀ j (h : j < ps.length) (h2 : j < qs.length), (∃ n m, S ps[j].1 n ∧ S qs[j].1 n ∧ S ps[j].2 m ∧ S qs[j].2 m)) → all2 cEq (cxs ps) (cxs qs) = true
  | [], [], _, _ => rfl
  | p :: ps, q :: qs, hl, h => by
    have ih := all2_cEq ps qs (by simpa using hl) (fun j h1 h2 => h (j + 1) (by simpa using h1) (by simpa using h2))
    obtain ⟨n, m, h1, h2, h3, h4⟩ := h 0 (by simp) (by simp)
    simp only [List.getElem_cons_zero] at h1 h2 h3 h4
    simp only [cxs, List.map_cons, all2, cEq] at ih ⊢
    rw [ih]
    have e1 : (FloatKind.f32.format.order p.1 q.1 == some .eq) = true := (order_eq_iff h1 h2).trans (by simp)
    have e2 : (FloatKind.f32.format.order p.2 q.2 == some .eq) = true := (order_eq_iff h3 h4).trans (by simp)
    rw [e1, e2]; rfl
theorem cxs_getD (ps : List (Nat × Nat)) (i : Nat) (h : i < (cxs ps).length) : (cxs ps).getD i undef = .complex .f32 (ps.getD i (0, 0)).1 (ps.getD i (0, 0)).2 := by
  have h2 : i < ps.length := by simpa [cxs] using h
  simp [cxs, h2]
theorem neqCx (ps qs : List (Nat × Nat)) (hp : ps.length = 4) (hq : qs.length = 4) (h : all2 cEq (cxs ps) (cxs qs) = true) (w : World) :
    (binOp .neq 31 (.agg (cxs ps).toArray) (.agg (cxs qs).toArray)).run Tryz.prog w = .ok (.bool false) w := by
  obtain ⟨i, hi, _⟩ := info_parts info146
  have hE : (Op.equalIn (9998 + 2) 31 (.agg (cxs ps).toArray) (.agg (cxs qs).toArray)).run Tryz.prog w = .ok true w := by
    rw [run_eqArray w 9999 31 30 4 i cEq (cxs ps) (cxs qs) Tryz.underlying31 hi (by kernel_rfl) (part_scalar w _ isAgg146) ?_ (by simpa [cxs] using hp) (by simpa [cxs] using hq), h]
    intro j hj
    have hj2 : j < (cxs qs).length := by simp [cxs] at hj ⊢; omega
    rw [cxs_getD ps j hj, cxs_getD qs j hj2, run_equalIn_complex w 9998 _ .f32 .f32 _ _ _ _ Tryz.underlying30]
    rfl
  have h2 : (Op.equal 31 (.agg (cxs ps).toArray) (.agg (cxs qs).toArray)).run Tryz.prog w = .ok true w := hE
  simp only [binOp]
  simp [h2]

theorem quarter_run (x y : Nat) (h : Ieee.single.div x b4 = some y) (w : World) : (binOp .quo 27 (.float .f32 x) (.float .f32 1082130432)).run Tryz.prog w = .ok (.float .f32 y) w :=
  run_float_arith w .quo _ .f32 _ _ _ h
theorem sampsI_ok {ys : List Nat} {a : List Int} (hl : ys.length ≤ 4096) (h : ∀ j (hj : j < ys.length), S ys[j] (a.getD j 0)) (ha : ∀ j, (a.getD j 0).natAbs ≤ 16384) : sampsI ys = 0 := by
  unfold sampsI
  rw [if_neg (by omega)]
  refine firstI_zero ?_
  intro z hz
  simp only [List.mem_map] at hz
  obtain ⟨y, hy, rfl⟩ := hz
  obtain ⟨j, hj, rfl⟩ := List.getElem_of_mem hy
  unfold sampI gradeB
  rw [fin_of (h j hj), stp_of (h j hj) (ha j)]; rfl
end Go.Proofs.YtkfkmnfejeocpaaGreatDoor

/- Contracts: Unfour, of the transform of four samples. -/
namespace Go.Proofs.YtkfkmnfejeocpaaGreatDoor
set_option linter.all false
open Go.RowKit Go.Fl
set_option linter.unusedVariables false
set_option linter.unusedSimpArgs false

theorem gen_world {p : World → Prop} {w0 w : World} (g0 g1 g2 g3 : Nat) (t s : TypeId) (us vs zs ys : List Value) (h0 : Row w g0 t us) (h1 : Row w g1 t vs) (h2 : Row w g2 s zs) (h3 : Row w g3 s ys) (hb : Below w0.heap.size w0 w)
    (h : ∀ w3, Row w3 g0 t us → Row w3 g1 t vs → Row w3 g2 s zs → Row w3 g3 s ys → Below w0.heap.size w0 w3 → p w3) : p w := h w h0 h1 h2 h3 hb

set_option maxRecDepth 100000 in
set_option maxHeartbeats 1000000 in
theorem unfour_ok (r0 i0 r1 i1 r2 i2 r3 i3 : Nat) (a : List Int) (w : World) (hw : Pw w) (ha : ∀ j, (a.getD j 0).natAbs ≤ 16384)
    (hS : ∀ j (h : j < [(r0, i0), (r1, i1), (r2, i2), (r3, i3)].length), S [(r0, i0), (r1, i1), (r2, i2), (r3, i3)][j].1 (fourP a j 4).1 ∧ S [(r0, i0), (r1, i1), (r2, i2), (r3, i3)][j].2 (fourP a j 4).2) :
    Calls Tryz.prog 11 #[.agg #[.complex .f32 r0 i0, .complex .f32 r1 i1, .complex .f32 r2 i2, .complex .f32 r3 i3]] w fun e w' => ∃ ys, e = .returned (.tuple #[.agg (flts ys).toArray, .int .i64 0]) ∧ UnQ a 4 ys ∧ Below w.heap.size w w' := by
  have hg : 0 < w.heap.size := World.block_lt_of_cell? w _ (hw.at 0 1 rfl)
  have Hg := Lib.hid hg; clear hg
  have Hw := Lib.hid hw; have Ha := Lib.hid ha; have HS := Lib.hid hS
  clear hw ha hS
  have Hok : Hid (okCx [(r0, i0), (r1, i1), (r2, i2), (r3, i3)]) := by
    intro p hp
    obtain ⟨j, hj, rfl⟩ := List.getElem_of_mem hp
    obtain ⟨h1, h2⟩ := HS.out j hj
    have hb := fourP_bd a j 4 Ha.out
    exact ⟨_, _, h1, h2, by omega, by omega⟩
  go_enter Tryz.func11, Tryz.ntmps11
  have hr0 : Row (w.alloc (.cells #[.complex .f32 r0 i0, .complex .f32 r1 i1, .complex .f32 r2 i2, .complex .f32 r3 i3] 31)) w.heap.size 31 (cxs [(r0, i0), (r1, i1), (r2, i2), (r3, i3)]) := Row.new w 31 (cxs [(r0, i0), (r1, i1), (r2, i2), (r3, i3)])
  have Hr0 := Lib.hid hr0
  clear hr0
  go_wp2_with (first | (go_at_call 46; refine (checkPanel_ok _ _ _ _ _ _ _ _ _ Hok.out).mono ?_; rintro e w1 ⟨rfl, hb1⟩))
  have hr1 : Row w1 w.heap.size 31 (cxs [(r0, i0), (r1, i1), (r2, i2), (r3, i3)]) := (Hr0.out.alloc _).old hb1
  have hres : Row w1 (w.heap.size + 1) 28 (flts [0, 0, 0, 0]) := by
    have h := Row.new (w.alloc (.cells (cxs [(r0, i0), (r1, i1), (r2, i2), (r3, i3)]).toArray 31)) 28 (flts [0, 0, 0, 0])
    rw [World.size_alloc] at h
    exact h.old hb1
  have hb0 : Below w.heap.size w w1 := (((Below.refl w.heap.size w).alloc (Nat.le_refl _) _).alloc (by simp) _).trans (hb1.mono (by simp; omega))
  have hp1 : Pw w1 := Hw.out.old hb0
  have hs1 : w.heap.size + 2 ≤ w1.heap.size := by have := hb1.size; simp at this; omega
  have Hl := Lib.hid hr1; have Hres := Lib.hid hres; have Hb0 := Lib.hid hb0; have Hp1 := Lib.hid hp1
  clear hr1 hres hb0 hp1 hb1 Hr0
  go_loopw [18] (fun i wr => ∃ (n : Nat) (ys : List Nat), n ≤ 4 ∧ i = .int .i64 n ∧ Hid (UnQ a n ys) ∧ Hid (Row wr w1.heap.size 28 (flts ys)) ∧ Hid (Row wr w.heap.size 31 (cxs [(r0, i0), (r1, i1), (r2, i2), (r3, i3)])) ∧ Hid (Row wr (w.heap.size + 1) 28 (flts [0, 0, 0, 0])) ∧ Hid (Pw wr) ∧ Hid (Below w.heap.size w wr)) (fun i _ => 4 - (intOf i).toNat)
  case atStart => exact ⟨0, _, Nat.zero_le _, rfl, UnQ.start a, Row.new w1 28 (flts [0, 0, 0, 0]), Hl.out.alloc _, Hres.out.alloc _, Hp1.out.old ((Below.refl _ _).alloc (Nat.le_refl _) _), Hb0.out.alloc (by omega) _⟩
  case round =>
    obtain ⟨n, ys, hn, rfl, hq, hrow, hl, hres, hp, hb⟩ := hrel
    by_cases hlt : n < 4
    · have hl4 : Hid (wr.heap[w.heap.size]? = some (.cells #[.complex .f32 r0 i0, .complex .f32 r1 i1, .complex .f32 r2 i2, .complex .f32 r3 i3] 31 (0, 0))) := hl.out
      go_wp2_with (refine wpList_load_row rfl 31 _ rfl w.heap.size rfl 31 #[.complex .f32 r0 i0, .complex .f32 r1 i1, .complex .f32 r2 i2, .complex .f32 r3 i3] (0, 0) _ hl4.out Tryz.underlying31 rfl ?_ ?_; (rw [info147]; rfl))
      clear hl4
      go_loopw [22, 7] (fun i s wn => ∃ (k sr si : Nat), k ≤ 4 ∧ i = .int .i64 k ∧ s = .complex .f32 sr si ∧ Hid (S sr (unP a n k).1) ∧ Hid (S si (unP a n k).2) ∧ Hid (Row wn w1.heap.size 28 (flts ys)) ∧ Hid (Row wn w.heap.size 31 (cxs [(r0, i0), (r1, i1), (r2, i2), (r3, i3)])) ∧ Hid (Row wn (w.heap.size + 1) 28 (flts [0, 0, 0, 0])) ∧ Hid (Pw wn) ∧ Hid (Below w.heap.size w wn)) (fun i _ _ => 4 - (intOf i).toNat)
      case atStart => exact ⟨0, 0, 0, Nat.zero_le _, rfl, rfl, S.zero, S.zero, hrow, hl, hres, hp, hb⟩
      case round =>
        clear hl hres hp hb hrow
        obtain ⟨k, sr, si, hk, rfl, rfl, hsr, hsi, hrow, hl, hres, hp, hb⟩ := hrel
        by_cases hlt2 : k < 4
        · obtain ⟨z, hz⟩ : ∃ z, z = 3 * k * n := ⟨_, rfl⟩
          obtain ⟨y, hy⟩ : ∃ y, y = 3 * k := ⟨_, rfl⟩
          have hyi : (3 : Int) * (k : Int) = (y : Int) := by rw [hy]; omega
          have hyb : y ≤ 12 := by omega
          have hzi : (y : Int) * (n : Int) = (z : Int) := by rw [hz, ← hy, Int.natCast_mul]
          have hzb : z < 1000000 := by rw [hz, ← hy]; have := Nat.mul_le_mul (show y ≤ 12 by omega) (show n ≤ 4 by omega); omega
          obtain ⟨r, i, hx, sR, sI⟩ : ∃ r i, [(r0, i0), (r1, i1), (r2, i2), (r3, i3)][k]? = some (r, i) ∧ S r (fourP a k 4).1 ∧ S i (fourP a k 4).2 := by
            have h4 : k < [(r0, i0), (r1, i1), (r2, i2), (r3, i3)].length := hlt2
            exact ⟨_, _, List.getElem?_eq_getElem h4, HS.out k h4⟩
          obtain ⟨u1, v1, u2, v2, hm, hs, s1, s2⟩ := unfour_run a n k r i sr si z hz Ha.out hlt2 sR sI hsr.out hsi.out
          have hix := fun W => index_panel r0 i0 r1 i1 r2 i2 r3 i3 k r i hlt2 hx W
          have S1 := Lib.hid s1; have S2 := Lib.hid s2
          clear s1 s2 sR sI hx hz hy
          have Hzb := Lib.hid hzb
          go_wp2_with (first | (go_at_call 43; refine (power_any z _ hp.out Hzb.out).mono ?_; rintro e w2 ⟨rfl, hb2⟩))
          go_roundw
          case rel => exact ⟨k + 1, u2, v2, by omega, by go_num, rfl, S1, S2, hrow.out.old hb2, hl.out.old hb2, hres.out.old hb2, hp.out.old hb2, hb.out.trans (hb2.mono hb.out.size)⟩
          case measure => simp [intOf]; omega
        · obtain rfl : k = 4 := by omega
          have hs4 : S sr (4 * a.getD n 0) := by rw [← unP_all a n hlt]; exact hsr.out
          obtain ⟨y, hdiv, sy⟩ := hs4.quarter (by have := Ha.out n; omega)
          have hqr := fun w => quarter_run sr y hdiv w
          have Hst := Lib.hid (hq.out.step sy)
          have hset := Lib.hid (flts_set ys n y)
          obtain ⟨v0, hc0⟩ : ∃ v0, wr.cell? ⟨w1.heap.size, n, none⟩ = some v0 := ⟨_, hrow.out.cellAt (by have := hq.out.1; simp [flts]; omega)⟩
          have hf0 := hrow.out.free n
          clear hs4 hdiv sy
          go_wp2
          go_roundw
          case rel => exact ⟨n + 1, ys.set n y, by omega, by go_num, Hst.out, by have := hrow.out.set n (.float .f32 y); rw [hset.out] at this; exact this, hl.out.far (by simp; omega) _, hres.out.far (by simp; omega) _, hp.out.set (Nat.ne_of_gt (by have := Hg.out; show _ < w1.heap.size; omega)) _, hb.out.setCell (by simp; omega) _⟩
          case measure => simp [intOf]; omega
    · obtain rfl : n = 4 := by omega
      obtain ⟨y0, y1, y2, y3, rfl⟩ : ∃ y0 y1 y2 y3, ys = [y0, y1, y2, y3] := by
        have := hq.out.1
        match ys, this with
        | [a, b, c, d], _ => exact ⟨a, b, c, d, rfl⟩
      have hS4 : ∀ j (h : j < [y0, y1, y2, y3].length), S [y0, y1, y2, y3][j] (a.getD j 0) := by
        intro j h
        have h2 := hq.out.2 j h
        have h4 : j < 4 := h
        rwa [if_pos h4] at h2
      have HS4 := Lib.hid hS4
      have Hsam := Lib.hid (sampsI_ok (by simp) hS4 Ha.out)
      clear hS4
      have hy4 : Hid (wr.heap[w1.heap.size]? = some (.cells #[.float .f32 y0, .float .f32 y1, .float .f32 y2, .float .f32 y3] 28 (0, 0))) := hrow.out
      go_wp2_with (refine wpList_load_row rfl 28 _ rfl w1.heap.size rfl 28 #[.float .f32 y0, .float .f32 y1, .float .f32 y2, .float .f32 y3] (0, 0) _ hy4.out Tryz.underlying28 rfl ?_ ?_; (rw [info150]; rfl))
      refine (four_ok y0 y1 y2 y3 a _ hp.out Ha.out HS4.out Hsam.out).mono ?_
      rintro e w2 ⟨qs, rfl, hpa, hb2⟩
      obtain ⟨c0, d0, c1, d1, c2, d2, c3, d3, rfl⟩ : ∃ c0 d0 c1 d1 c2 d2 c3 d3, qs = [(c0, d0), (c1, d1), (c2, d2), (c3, d3)] := by
        have := hpa.1
        match qs, this with
        | [(a, b), (c, d), (e, f), (g, h)], _ => exact ⟨a, b, c, d, e, f, g, h, rfl⟩
      have hqe : all2 cEq (cxs [(c0, d0), (c1, d1), (c2, d2), (c3, d3)]) (cxs [(r0, i0), (r1, i1), (r2, i2), (r3, i3)]) = true := by
        refine all2_cEq _ _ (by rw [hpa.1]; rfl) (fun j h1 h2 => ?_)
        obtain ⟨a1, a2⟩ := hpa.2 j h1
        obtain ⟨b1, b2⟩ := HS.out j h2
        have e : PaN a 4 0 j = fourP a j 4 := by
          unfold PaN
          have h4 : j < 4 := h2
          rw [if_pos h4]
        rw [e] at a1 a2
        exact ⟨_, _, a1, b1, a2, b2⟩
      obtain ⟨us, hus⟩ : ∃ us, us = cxs [(c0, d0), (c1, d1), (c2, d2), (c3, d3)] := ⟨_, rfl⟩
      obtain ⟨vs, hvs⟩ : ∃ vs, vs = cxs [(r0, i0), (r1, i1), (r2, i2), (r3, i3)] := ⟨_, rfl⟩
      have hneq := fun w => neqCx [(c0, d0), (c1, d1), (c2, d2), (c3, d3)] [(r0, i0), (r1, i1), (r2, i2), (r3, i3)] hpa.1 rfl hqe w
      have hl2 := hl.out.old hb2
      have hres2 := hres.out.old hb2
      have hy2 : Row w2 w1.heap.size 28 (flts [y0, y1, y2, y3]) := Row.old hy4.out hb2
      have hu4 : us.length = 4 := by rw [hus]; rfl
      have hu1 : ∀ v ∈ us, v.oneCell' = true := by rw [hus]; exact cxs_one _
      have hv4 : vs.length = 4 := by rw [hvs]; rfl
      have hneq2 : ∀ w, (binOp .neq 31 (.agg #[.complex .f32 c0 d0, .complex .f32 c1 d1, .complex .f32 c2 d2, .complex .f32 c3 d3]) (.agg #[.complex .f32 r0 i0, .complex .f32 r1 i1, .complex .f32 r2 i2, .complex .f32 r3 i3])).run Tryz.prog w = .ok (.bool false) w := hneq
      clear hneq
      rw [← hvs] at hl2
      rw [← hus]
      have hbig : w.heap.size + 2 ≤ w2.heap.size ∧ w1.heap.size < w2.heap.size := by
        have h1 := hy2.lt; omega
      have Hl2 : Hid (Row ((w2.alloc (.cells (cxs [(0, 0), (0, 0), (0, 0), (0, 0)]).toArray 31)).setRow w2.heap.size us.toArray) w.heap.size 31 vs) := (hl2.alloc _).farRow (by omega) _
      have Hnew : Hid (Row (w2.alloc (.cells (cxs [(0, 0), (0, 0), (0, 0), (0, 0)]).toArray 31)) w2.heap.size 31 (cxs [(0, 0), (0, 0), (0, 0), (0, 0)])) := Row.new w2 31 (cxs [(0, 0), (0, 0), (0, 0), (0, 0)])
      have Hu : Hid (Row ((w2.alloc (.cells (cxs [(0, 0), (0, 0), (0, 0), (0, 0)]).toArray 31)).setRow w2.heap.size us.toArray) w2.heap.size 31 us) := Hnew.out.setRow us
      have Hres2 : Hid (Row ((w2.alloc (.cells (cxs [(0, 0), (0, 0), (0, 0), (0, 0)]).toArray 31)).setRow w2.heap.size us.toArray) (w.heap.size + 1) 28 (flts [0, 0, 0, 0])) := (hres2.alloc _).farRow (by omega) _
      have Hy2 : Hid (Row ((w2.alloc (.cells (cxs [(0, 0), (0, 0), (0, 0), (0, 0)]).toArray 31)).setRow w2.heap.size us.toArray) w1.heap.size 28 (flts [y0, y1, y2, y3])) := (hy2.alloc _).farRow (by omega) _
      have Hbb : Hid (Below w.heap.size w ((w2.alloc (.cells (cxs [(0, 0), (0, 0), (0, 0), (0, 0)]).toArray 31)).setRow w2.heap.size us.toArray)) := Below.setRow ((hb.out.trans (hb2.mono hb.out.size)).alloc (by omega) _) (by omega) _
      have Hcs : Hid (us = [.complex .f32 c0 d0, .complex .f32 c1 d1, .complex .f32 c2 d2, .complex .f32 c3 d3] ∧ vs = [.complex .f32 r0 i0, .complex .f32 r1 i1, .complex .f32 r2 i2, .complex .f32 r3 i3]) := ⟨hus, hvs⟩
      have Hu4 := Lib.hid hu4; have Hu1 := Lib.hid hu1; have Hv4 := Lib.hid hv4
      clear hqe hus hvs hl2 hres2 hy2 hu4 hu1 hv4 hpa
      go_wp2_with (refine wpList_store_row rfl 31 _ _ rfl w2.heap.size us.toArray rfl rfl 31 _ Hnew.out ?_ ?_ ?_ (gen_world (w2.heap.size) w.heap.size (w.heap.size + 1) w1.heap.size 31 28 us vs (flts [0, 0, 0, 0]) (flts [y0, y1, y2, y3]) Hu.out Hl2.out Hres2.out Hy2.out Hbb.out ?_); (rw [info147]; simp [Hu4.out]); (simp [Hu4.out, cxs]); (simpa using Hu1.out))
      intro w3 k0 k1 k2 k3 kb
      rw [Hcs.out.1] at k0 ⊢
      rw [Hcs.out.2] at k1
      have a0 := k0.cellAt (j := 0) (by simp); have a1 := k0.cellAt (j := 1) (by simp); have a2 := k0.cellAt (j := 2) (by simp); have a3 := k0.cellAt (j := 3) (by simp)
      have b0 := k1.cellAt (j := 0) (by simp); have b1 := k1.cellAt (j := 1) (by simp); have b2 := k1.cellAt (j := 2) (by simp); have b3 := k1.cellAt (j := 3) (by simp)
      simp only [List.getElem_cons_zero, List.getElem_cons_succ] at a0 a1 a2 a3 b0 b1 b2 b3
      have K2 := Lib.hid k2; have K3 := Lib.hid k3; have Kb := Lib.hid kb
      clear k0 k1 k2 k3 kb
      go_wp2_with (first
        | (refine wpList_load_row rfl 28 _ rfl w1.heap.size rfl 28 (flts [y0, y1, y2, y3]).toArray (0, 0) _ K3.out Tryz.underlying28 rfl ?_ ?_; (rw [info150]; rfl))
        | (refine wpList_store_row rfl 28 _ _ rfl (w.heap.size + 1) (flts [y0, y1, y2, y3]).toArray rfl rfl 28 _ K2.out ?_ ?_ ?_ ?_; (rw [info150]; rfl); (rfl); (simp [flts, Value.oneCell'])))
      refine bodyPost_ret (results_row_tmp rfl _ _ (w.heap.size + 1) 28 (flts [y0, y1, y2, y3]).toArray (0, 0) _ rfl (K2.out.setRow (flts [y0, y1, y2, y3])) Tryz.underlying28 rfl ?_) rfl ?_
      · rw [info150]; rfl
      · exact ⟨_, rfl, hq.out, Below.setRow Kb.out (by simp) _⟩
end Go.Proofs.YtkfkmnfejeocpaaGreatDoor

/- Contracts: the integers of samples, and their bytes. -/
namespace Go.Proofs.YtkfkmnfejeocpaaGreatDoor
set_option linter.all false
open Go.RowKit Go.Fl
set_option linter.unusedVariables false
set_option linter.unusedSimpArgs false

/-- the integer of a sample -/
def unitI (x : Nat) : Int := match V32 x with | some V => cutI V | none => 0
theorem unit_of {x : Nat} (h : sampI x = 0) : ∃ V, Val Ieee.single x V ∧ V.natAbs ≤ 16384 * 2 ^ 145 ∧ unitI x = cutI V := by
  have h2 : partI x 16384 = 0 := by rw [← sampI_eq]; exact h
  unfold partI at h2
  split at h2
  · cases h2
  · have h3 : stepB x 16384 = true := by
      cases hs : stepB x 16384 with
      | true => rfl
      | false => rw [hs] at h2; cases h2
    unfold stepB at h3
    split at h3
    · rename_i V hV
      simp only [Bool.and_eq_true, decide_eq_true_eq] at h3
      exact ⟨V, V32_some hV, h3.1, by unfold unitI; rw [hV]⟩
    · cases h3
theorem unitI_bd {x : Nat} (h : sampI x = 0) : (unitI x).natAbs ≤ 16384 := by
  obtain ⟨V, _, hb, e⟩ := unit_of h
  rw [e]; exact cutI_bd hb
theorem unitI_bd2 {x : Nat} (h : sampI x = 0) : -32768 ≤ unitI x ∧ unitI x ≤ 65535 := by
  have := unitI_bd h; omega
theorem big_lt : 16384 * 2 ^ 145 < 2 ^ 200 := by decide
theorem unitOf_ok (x : Nat) (w : World) (h : sampI x = 0) : Calls Tryz.prog 50 #[.float .f32 x] w fun e w' => e = .returned (.int .i64 (unitI x)) ∧ w = w' := by
  obtain ⟨V, hV, hb, e⟩ := unit_of h
  rw [e]
  exact unitOf_any x V w hV (Nat.lt_of_le_of_lt hb big_lt) (Nat.lt_of_le_of_lt (cutI_bd hb) (by decide))
theorem part_setG {α : Type} (f : α → Value) (l : List α) (z : Value) (n k : Nat) (hk : k < l.length) (hn : n = l.length) : ((l.take k).map f ++ List.replicate (n - k) z).set k (f l[k]) = (l.take (k + 1)).map f ++ List.replicate (n - (k + 1)) z := by
  subst hn
  have hl : ((l.take k).map f).length = k := by simp; omega
  have he : l.length - k = (l.length - (k + 1)) + 1 := by omega
  rw [he, List.replicate_succ, List.set_append_right _ _ (by omega), hl, Nat.sub_self, List.take_succ_eq_append_getElem hk]
  simp only [List.map_append, List.append_assoc, List.map_cons, List.map_nil, List.cons_append, List.nil_append, List.set_cons_zero]

set_option maxRecDepth 100000 in
set_option maxHeartbeats 1000000 in
theorem mappedUnit_any (A : Option Addr) (n c : Nat) (xs : List Nat) (w : World) (hA : Rd w A (flts xs)) (hn : n = xs.length) (hm : xs.length ≤ 4096) (hs : ∀ x ∈ xs, sampI x = 0) :
    Calls Tryz.prog 84 #[.slice A n c, .func (.func 50) #[] #[]] w fun e w' => ∃ g, e = .returned (.slice (some ⟨g, 0, none⟩) n n) ∧ Row w' g 3 (ints (xs.map unitI)) ∧ w.heap.size ≤ g ∧ Below w.heap.size w w' := by
  subst hn
  have Hs := Lib.hid hs
  clear hs
  have hmk := fun W : World => make1 (P := Tryz.prog) 51 3 (.int .i64 0) 8 Tryz.underlying51 info3 rfl xs.length (by omega) (by omega) W
  go_enter Tryz.func84, Tryz.ntmps84
  go_wp2
  go_loopw [13] (fun i wr => ∃ k : Nat, k ≤ xs.length ∧ i = .int .i64 k ∧ Row wr w.heap.size 3 (ints ((xs.map unitI).take k) ++ List.replicate (xs.length - k) (.int .i64 0)) ∧ Below w.heap.size w wr) (fun i _ => xs.length - (intOf i).toNat)
  case atStart => exact ⟨0, Nat.zero_le _, rfl, by have := Row.new w 3 (List.replicate xs.length (.int .i64 0)); simpa [ints] using this, (Below.refl _ _).alloc (Nat.le_refl _) _⟩
  case round =>
    obtain ⟨k, hk, rfl, hrow, hb⟩ := hrel
    by_cases hlt : k < xs.length
    · obtain ⟨b, off, rfl, hc⟩ := Rd.flt (hA.below hb) hlt
      have hset := Lib.hid (part_set (xs.map unitI) xs.length k (by simpa using hlt) (by simp))
      have hfk := Lib.hid (show (xs.map unitI)[k]'(by simpa using hlt) = unitI xs[k] by simp)
      have hsk := Lib.hid (Hs.out xs[k] (List.getElem_mem hlt))
      have Hrow := Lib.hid hrow
      have Hb := Lib.hid hb
      have hc1 : wr.cell? ⟨w.heap.size, k, none⟩ = some (.int .i64 0) := by
        rw [hrow.cell]
        exact mid_get _ _ _ _ (by simp [ints]; omega) hlt
      have hf1 := hrow.free k
      clear hrow hb
      go_wp2_with (go_at_call 50; refine (unitOf_ok _ _ hsk.out).mono ?_; rintro e w1 ⟨rfl, rfl⟩)
      go_roundw
      case rel => exact ⟨k + 1, by omega, by go_num, by rw [← hset.out, hfk.out]; exact Hrow.out.set k _, Hb.out.setCell (by simp) _⟩
      case measure => simp [intOf]; omega
    · obtain rfl : k = xs.length := by omega
      go_wp2
      go_ret
      exact ⟨_, rfl, by rw [Nat.sub_self, List.replicate_zero, List.append_nil, List.take_of_length_le (by simp)] at hrow; exact hrow, Nat.le_refl _, hb⟩

/-- the higher and the lower byte of a sample's integer -/
def hiI (x : Nat) : Int := unitI x % 65536 / 256
def loI (x : Nat) : Int := unitI x % 256
set_option maxHeartbeats 400000 in
theorem pack1_any (x : Nat) (w : World) (h : sampI x = 0) : Calls Tryz.prog 49 #[.float .f32 x] w fun e w' => e = .returned (.int .u8 (hiI x)) ∧ w = w' := by
  have H := Lib.hid h
  have hb := unitI_bd2 h
  clear h
  go_enter Tryz.func49, Tryz.ntmps49
  go_wp2_with (first | (go_at_call 50; refine (unitOf_ok _ _ H.out).mono ?_; rintro e w1 ⟨rfl, rfl⟩) | (go_at_call 47; refine (halves_any _ _ hb).mono ?_; rintro e w1 ⟨rfl, rfl⟩))
  go_ret
  exact ⟨rfl, rfl⟩
set_option maxHeartbeats 400000 in
theorem pack2_any (x : Nat) (w : World) (h : sampI x = 0) : Calls Tryz.prog 51 #[.float .f32 x] w fun e w' => e = .returned (.int .u8 (loI x)) ∧ w = w' := by
  have H := Lib.hid h
  have hb := unitI_bd2 h
  clear h
  go_enter Tryz.func51, Tryz.ntmps51
  go_wp2_with (first | (go_at_call 50; refine (unitOf_ok _ _ H.out).mono ?_; rintro e w1 ⟨rfl, rfl⟩) | (go_at_call 47; refine (halves_any _ _ hb).mono ?_; rintro e w1 ⟨rfl, rfl⟩))
  go_ret
  exact ⟨rfl, rfl⟩

set_option maxRecDepth 100000 in
set_option maxHeartbeats 1000000 in
theorem mappedHi_any (A : Option Addr) (n c : Nat) (xs : List Nat) (w : World) (hA : Rd w A (flts xs)) (hn : n = xs.length) (hm : xs.length ≤ 4096) (hs : ∀ x ∈ xs, sampI x = 0) :
    Calls Tryz.prog 48 #[.slice A n c, .func (.func 49) #[] #[]] w fun e w' => ∃ g, e = .returned (.slice (some ⟨g, 0, none⟩) n n) ∧ Row w' g 5 (u8s (xs.map hiI)) ∧ w.heap.size ≤ g ∧ Below w.heap.size w w' := by
  subst hn
  have Hs := Lib.hid hs
  clear hs
  have hmk := fun W : World => make1 (P := Tryz.prog) 42 5 (.int .u8 0) 1 Tryz.underlying42 info5 rfl xs.length (by omega) (by omega) W
  go_enter Tryz.func48, Tryz.ntmps48
  go_wp2
  go_loopw [13] (fun i wr => ∃ k : Nat, k ≤ xs.length ∧ i = .int .i64 k ∧ Row wr w.heap.size 5 (((xs.map hiI).take k).map (Value.int .u8) ++ List.replicate (xs.length - k) (.int .u8 0)) ∧ Below w.heap.size w wr) (fun i _ => xs.length - (intOf i).toNat)
  case atStart => exact ⟨0, Nat.zero_le _, rfl, by have := Row.new w 5 (List.replicate xs.length (.int .u8 0)); simpa using this, (Below.refl _ _).alloc (Nat.le_refl _) _⟩
  case round =>
    obtain ⟨k, hk, rfl, hrow, hb⟩ := hrel
    by_cases hlt : k < xs.length
    · obtain ⟨b, off, rfl, hc⟩ := Rd.flt (hA.below hb) hlt
      have hset := Lib.hid (part_setG (Value.int .u8) (xs.map hiI) (.int .u8 0) xs.length k (by simpa using hlt) (by simp))
      have hfk := Lib.hid (show (xs.map hiI)[k]'(by simpa using hlt) = hiI xs[k] by simp)
      have hsk := Lib.hid (Hs.out xs[k] (List.getElem_mem hlt))
      have Hrow := Lib.hid hrow
      have Hb := Lib.hid hb
      have hc1 : wr.cell? ⟨w.heap.size, k, none⟩ = some (.int .u8 0) := by
        rw [hrow.cell]
        exact mid_get _ _ _ _ (by simp; omega) hlt
      have hf1 := hrow.free k
      clear hrow hb
      go_wp2_with (go_at_call 49; refine (pack1_any _ _ hsk.out).mono ?_; rintro e w1 ⟨rfl, rfl⟩)
      go_roundw
      case rel => exact ⟨k + 1, by omega, by go_num, by rw [← hset.out, hfk.out]; exact Hrow.out.set k _, Hb.out.setCell (by simp) _⟩
      case measure => simp [intOf]; omega
    · obtain rfl : k = xs.length := by omega
      go_wp2
      go_ret
      exact ⟨_, rfl, by rw [Nat.sub_self, List.replicate_zero, List.append_nil, List.take_of_length_le (by simp)] at hrow; exact hrow, Nat.le_refl _, hb⟩
set_option maxRecDepth 100000 in
set_option maxHeartbeats 1000000 in
theorem mappedLo_any (A : Option Addr) (n c : Nat) (xs : List Nat) (w : World) (hA : Rd w A (flts xs)) (hn : n = xs.length) (hm : xs.length ≤ 4096) (hs : ∀ x ∈ xs, sampI x = 0) :
    Calls Tryz.prog 48 #[.slice A n c, .func (.func 51) #[] #[]] w fun e w' => ∃ g, e = .returned (.slice (some ⟨g, 0, none⟩) n n) ∧ Row w' g 5 (u8s (xs.map loI)) ∧ w.heap.size ≤ g ∧ Below w.heap.size w w' := by
  subst hn
  have Hs := Lib.hid hs
  clear hs
  have hmk := fun W : World => make1 (P := Tryz.prog) 42 5 (.int .u8 0) 1 Tryz.underlying42 info5 rfl xs.length (by omega) (by omega) W
  go_enter Tryz.func48, Tryz.ntmps48
  go_wp2
  go_loopw [13] (fun i wr => ∃ k : Nat, k ≤ xs.length ∧ i = .int .i64 k ∧ Row wr w.heap.size 5 (((xs.map loI).take k).map (Value.int .u8) ++ List.replicate (xs.length - k) (.int .u8 0)) ∧ Below w.heap.size w wr) (fun i _ => xs.length - (intOf i).toNat)
  case atStart => exact ⟨0, Nat.zero_le _, rfl, by have := Row.new w 5 (List.replicate xs.length (.int .u8 0)); simpa using this, (Below.refl _ _).alloc (Nat.le_refl _) _⟩
  case round =>
    obtain ⟨k, hk, rfl, hrow, hb⟩ := hrel
    by_cases hlt : k < xs.length
    · obtain ⟨b, off, rfl, hc⟩ := Rd.flt (hA.below hb) hlt
      have hset := Lib.hid (part_setG (Value.int .u8) (xs.map loI) (.int .u8 0) xs.length k (by simpa using hlt) (by simp))
      have hfk := Lib.hid (show (xs.map loI)[k]'(by simpa using hlt) = loI xs[k] by simp)
      have hsk := Lib.hid (Hs.out xs[k] (List.getElem_mem hlt))
      have Hrow := Lib.hid hrow
      have Hb := Lib.hid hb
      have hc1 : wr.cell? ⟨w.heap.size, k, none⟩ = some (.int .u8 0) := by
        rw [hrow.cell]
        exact mid_get _ _ _ _ (by simp; omega) hlt
      have hf1 := hrow.free k
      clear hrow hb
      go_wp2_with (go_at_call 51; refine (pack2_any _ _ hsk.out).mono ?_; rintro e w1 ⟨rfl, rfl⟩)
      go_roundw
      case rel => exact ⟨k + 1, by omega, by go_num, by rw [← hset.out, hfk.out]; exact Hrow.out.set k _, Hb.out.setCell (by simp) _⟩
      case measure => simp [intOf]; omega
    · obtain rfl : k = xs.length := by omega
      go_wp2
      go_ret
      exact ⟨_, rfl, by rw [Nat.sub_self, List.replicate_zero, List.append_nil, List.take_of_length_le (by simp)] at hrow; exact hrow, Nat.le_refl _, hb⟩
end Go.Proofs.YtkfkmnfejeocpaaGreatDoor

/- Contracts: the error of a packet. -/
namespace Go.Proofs.YtkfkmnfejeocpaaGreatDoor
set_option linter.all false
open Go.RowKit Go.Fl
set_option linter.unusedVariables false
set_option linter.unusedSimpArgs false

def pkI (st ct ln : Int) (xs : List Nat) : Int := firstI [whenI (rangeB st 0 255) 3, whenI (rangeB ct 0 65535) 3, whenI (rangeB ln 0 8) 3, sampsI xs, whenI (!samePk st ct ln xs st ct ln (trimL ln xs)) 1]

theorem rd8 {w : World} {g o : Nat} {x0 x1 x2 x3 x4 x5 x6 x7 : Nat} (h0 : w.cell? ⟨g, o, none⟩ = some (.float .f32 x0)) (h1 : w.cell? ⟨g, o + 1, none⟩ = some (.float .f32 x1)) (h2 : w.cell? ⟨g, o + 2, none⟩ = some (.float .f32 x2)) (h3 : w.cell? ⟨g, o + 3, none⟩ = some (.float .f32 x3))
    (h4 : w.cell? ⟨g, o + 4, none⟩ = some (.float .f32 x4)) (h5 : w.cell? ⟨g, o + 5, none⟩ = some (.float .f32 x5)) (h6 : w.cell? ⟨g, o + 6, none⟩ = some (.float .f32 x6)) (h7 : w.cell? ⟨g, o + 7, none⟩ = some (.float .f32 x7)) : Rd w (some ⟨g, o, none⟩) (flts [x0, x1, x2, x3, x4, x5, x6, x7]) := by
  intro j v hv
  have hj : j < 8 := (List.getElem?_eq_some_iff.1 hv).1
  refine ⟨g, o, rfl, ?_⟩
  rcases (show j = 0 ∨ j = 1 ∨ j = 2 ∨ j = 3 ∨ j = 4 ∨ j = 5 ∨ j = 6 ∨ j = 7 by omega) with rfl | rfl | rfl | rfl | rfl | rfl | rfl | rfl
  all_goals (simp [flts] at hv; subst hv; assumption)

theorem keepPk {w W W' : World} {st ct ln : Int} {x0 x1 x2 x3 x4 x5 x6 x7 : Nat} (h : W.cell? ⟨w.heap.size, 0, none⟩ = some (.int .i64 st) ∧ W.cell? ⟨w.heap.size, 1, none⟩ = some (.int .i64 ct) ∧ W.cell? ⟨w.heap.size, 2, none⟩ = some (.int .i64 ln) ∧ W.cell? ⟨w.heap.size, 3, none⟩ = some (.float .f32 x0) ∧ W.cell? ⟨w.heap.size, 4, none⟩ = some (.float .f32 x1) ∧ W.cell? ⟨w.heap.size, 5, none⟩ = some (.float .f32 x2) ∧ W.cell? ⟨w.heap.size, 6, none⟩ = some (.float .f32 x3) ∧ W.cell? ⟨w.heap.size, 7, none⟩ = some (.float .f32 x4) ∧ W.cell? ⟨w.heap.size, 8, none⟩ = some (.float .f32 x5) ∧ W.cell? ⟨w.heap.size, 9, none⟩ = some (.float .f32 x6) ∧ W.cell? ⟨w.heap.size, 10, none⟩ = some (.float .f32 x7) ∧ Below w.heap.size w W ∧ w.heap.size < W.heap.size) (hb : Below W.heap.size W W') : W'.cell? ⟨w.heap.size, 0, none⟩ = some (.int .i64 st) ∧ W'.cell? ⟨w.heap.size, 1, none⟩ = some (.int .i64 ct) ∧ W'.cell? ⟨w.heap.size, 2, none⟩ = some (.int .i64 ln) ∧ W'.cell? ⟨w.heap.size, 3, none⟩ = some (.float .f32 x0) ∧ W'.cell? ⟨w.heap.size, 4, none⟩ = some (.float .f32 x1) ∧ W'.cell? ⟨w.heap.size, 5, none⟩ = some (.float .f32 x2) ∧ W'.cell? ⟨w.heap.size, 6, none⟩ = some (.float .f32 x3) ∧ W'.cell? ⟨w.heap.size, 7, none⟩ = some (.float .f32 x4) ∧ W'.cell? ⟨w.heap.size, 8, none⟩ = some (.float .f32 x5) ∧ W'.cell? ⟨w.heap.size, 9, none⟩ = some (.float .f32 x6) ∧ W'.cell? ⟨w.heap.size, 10, none⟩ = some (.float .f32 x7) ∧ Below w.heap.size w W' ∧ w.heap.size < W'.heap.size := by
  obtain ⟨c0, c1, c2, c3, c4, c5, c6, c7, c8, c9, c10, b, l⟩ := h
  have hc : ∀ o v, W.cell? ⟨w.heap.size, o, none⟩ = some v → W'.cell? ⟨w.heap.size, o, none⟩ = some v := fun o v hv => (hb.cell (p := ⟨w.heap.size, o, none⟩) l).trans hv
  exact ⟨hc _ _ c0, hc _ _ c1, hc _ _ c2, hc _ _ c3, hc _ _ c4, hc _ _ c5, hc _ _ c6, hc _ _ c7, hc _ _ c8, hc _ _ c9, hc _ _ c10, b.trans (hb.mono b.size), Nat.lt_of_lt_of_le l hb.size⟩
theorem belowPk {w W : World} {st ct ln : Int} {x0 x1 x2 x3 x4 x5 x6 x7 : Nat} (h : W.cell? ⟨w.heap.size, 0, none⟩ = some (.int .i64 st) ∧ W.cell? ⟨w.heap.size, 1, none⟩ = some (.int .i64 ct) ∧ W.cell? ⟨w.heap.size, 2, none⟩ = some (.int .i64 ln) ∧ W.cell? ⟨w.heap.size, 3, none⟩ = some (.float .f32 x0) ∧ W.cell? ⟨w.heap.size, 4, none⟩ = some (.float .f32 x1) ∧ W.cell? ⟨w.heap.size, 5, none⟩ = some (.float .f32 x2) ∧ W.cell? ⟨w.heap.size, 6, none⟩ = some (.float .f32 x3) ∧ W.cell? ⟨w.heap.size, 7, none⟩ = some (.float .f32 x4) ∧ W.cell? ⟨w.heap.size, 8, none⟩ = some (.float .f32 x5) ∧ W.cell? ⟨w.heap.size, 9, none⟩ = some (.float .f32 x6) ∧ W.cell? ⟨w.heap.size, 10, none⟩ = some (.float .f32 x7) ∧ Below w.heap.size w W ∧ w.heap.size < W.heap.size) : Below w.heap.size w W := by
  obtain ⟨c0, c1, c2, c3, c4, c5, c6, c7, c8, c9, c10, b, l⟩ := h
  exact b
theorem rdPk {w W : World} {st ct ln : Int} {x0 x1 x2 x3 x4 x5 x6 x7 : Nat} (h : W.cell? ⟨w.heap.size, 0, none⟩ = some (.int .i64 st) ∧ W.cell? ⟨w.heap.size, 1, none⟩ = some (.int .i64 ct) ∧ W.cell? ⟨w.heap.size, 2, none⟩ = some (.int .i64 ln) ∧ W.cell? ⟨w.heap.size, 3, none⟩ = some (.float .f32 x0) ∧ W.cell? ⟨w.heap.size, 4, none⟩ = some (.float .f32 x1) ∧ W.cell? ⟨w.heap.size, 5, none⟩ = some (.float .f32 x2) ∧ W.cell? ⟨w.heap.size, 6, none⟩ = some (.float .f32 x3) ∧ W.cell? ⟨w.heap.size, 7, none⟩ = some (.float .f32 x4) ∧ W.cell? ⟨w.heap.size, 8, none⟩ = some (.float .f32 x5) ∧ W.cell? ⟨w.heap.size, 9, none⟩ = some (.float .f32 x6) ∧ W.cell? ⟨w.heap.size, 10, none⟩ = some (.float .f32 x7) ∧ Below w.heap.size w W ∧ w.heap.size < W.heap.size) : Rd W (some ⟨w.heap.size, 3, none⟩) (flts [x0, x1, x2, x3, x4, x5, x6, x7]) := by
  obtain ⟨c0, c1, c2, c3, c4, c5, c6, c7, c8, c9, c10, b, l⟩ := h
  exact rd8 c3 c4 c5 c6 c7 c8 c9 c10

set_option maxRecDepth 100000 in
set_option maxHeartbeats 2000000 in
theorem checkPacket_any (st ct ln : Int) (x0 x1 x2 x3 x4 x5 x6 x7 : Nat) (w : World) :
    Calls Tryz.prog 63 #[.agg #[.int .i64 st, .int .i64 ct, .int .i64 ln, .float .f32 x0, .float .f32 x1, .float .f32 x2, .float .f32 x3, .float .f32 x4, .float .f32 x5, .float .f32 x6, .float .f32 x7]] w
      fun e w' => e = .returned (.int .i64 (pkI st ct ln [x0, x1, x2, x3, x4, x5, x6, x7])) ∧ Below w.heap.size w w' := by
  have heq := fun W => neqPk54 st ct ln [x0, x1, x2, x3, x4, x5, x6, x7] st ct ln (trimL ln [x0, x1, x2, x3, x4, x5, x6, x7]) rfl rfl W
  obtain ⟨tv, htv⟩ : ∃ tv, tv = (pkC st ct ln (trimL ln [x0, x1, x2, x3, x4, x5, x6, x7])).toArray := ⟨_, rfl⟩
  rw [← htv] at heq
  have HT := Lib.hid htv
  clear htv
  have heq2 : ∀ W, (binOp .neq 67 (.agg #[.int .i64 st, .int .i64 ct, .int .i64 ln, .float .f32 x0, .float .f32 x1, .float .f32 x2, .float .f32 x3, .float .f32 x4, .float .f32 x5, .float .f32 x6, .float .f32 x7]) (.agg tv)).run Tryz.prog W = .ok (.bool (!samePk st ct ln [x0, x1, x2, x3, x4, x5, x6, x7] st ct ln (trimL ln [x0, x1, x2, x3, x4, x5, x6, x7]))) W := heq
  clear heq
  go_enter Tryz.func63, Tryz.ntmps63
  go_wp2
  have hS0 : (fun w' : World => w'.cell? ⟨w.heap.size, 0, none⟩ = some (.int .i64 st) ∧ w'.cell? ⟨w.heap.size, 1, none⟩ = some (.int .i64 ct) ∧ w'.cell? ⟨w.heap.size, 2, none⟩ = some (.int .i64 ln) ∧ w'.cell? ⟨w.heap.size, 3, none⟩ = some (.float .f32 x0) ∧ w'.cell? ⟨w.heap.size, 4, none⟩ = some (.float .f32 x1) ∧ w'.cell? ⟨w.heap.size, 5, none⟩ = some (.float .f32 x2) ∧ w'.cell? ⟨w.heap.size, 6, none⟩ = some (.float .f32 x3) ∧ w'.cell? ⟨w.heap.size, 7, none⟩ = some (.float .f32 x4) ∧ w'.cell? ⟨w.heap.size, 8, none⟩ = some (.float .f32 x5) ∧ w'.cell? ⟨w.heap.size, 9, none⟩ = some (.float .f32 x6) ∧ w'.cell? ⟨w.heap.size, 10, none⟩ = some (.float .f32 x7) ∧ Below w.heap.size w w' ∧ w.heap.size < w'.heap.size) (w.alloc (.cells #[.int .i64 st, .int .i64 ct, .int .i64 ln, .float .f32 x0, .float .f32 x1, .float .f32 x2, .float .f32 x3, .float .f32 x4, .float .f32 x5, .float .f32 x6, .float .f32 x7] 67)) := by
    refine ⟨?_, ?_, ?_, ?_, ?_, ?_, ?_, ?_, ?_, ?_, ?_, (Below.refl _ _).alloc (Nat.le_refl _) _, by simp⟩
    all_goals simp
  go_region_held3 (fun w' => w'.cell? ⟨w.heap.size, 0, none⟩ = some (.int .i64 st) ∧ w'.cell? ⟨w.heap.size, 1, none⟩ = some (.int .i64 ct) ∧ w'.cell? ⟨w.heap.size, 2, none⟩ = some (.int .i64 ln) ∧ w'.cell? ⟨w.heap.size, 3, none⟩ = some (.float .f32 x0) ∧ w'.cell? ⟨w.heap.size, 4, none⟩ = some (.float .f32 x1) ∧ w'.cell? ⟨w.heap.size, 5, none⟩ = some (.float .f32 x2) ∧ w'.cell? ⟨w.heap.size, 6, none⟩ = some (.float .f32 x3) ∧ w'.cell? ⟨w.heap.size, 7, none⟩ = some (.float .f32 x4) ∧ w'.cell? ⟨w.heap.size, 8, none⟩ = some (.float .f32 x5) ∧ w'.cell? ⟨w.heap.size, 9, none⟩ = some (.float .f32 x6) ∧ w'.cell? ⟨w.heap.size, 10, none⟩ = some (.float .f32 x7) ∧ Below w.heap.size w w' ∧ w.heap.size < w'.heap.size) (first | assumption | exact keepPk hS0 (Below.drew (Below.refl _ _)) | exact keepPk (by assumption) (Below.drew (Below.refl _ _)) | exact keepPk (by assumption) (below_drewN (Below.refl _ _) _) | exact keepPk (by assumption) (by assumption) | exact keepPk (by assumption) ((Below.refl _ _).alloc (Nat.le_refl _) _))
    (first | (go_at_call 58; refine (between_any _ _ _ _).mono ?_; rintro e w' ⟨rfl, rfl⟩) | (go_at_call 42; refine (checkSamples_any _ _ _ [x0, x1, x2, x3, x4, x5, x6, x7] _ ?_ rfl).mono ?_; (exact rdPk (by assumption)); (rintro e w1 ⟨rfl, hb1⟩)) | (go_at_call 115; refine (trimmed_any _ _ _ _ _ _ _ _ _ _ _ _).mono ?_; (rintro e w1 ⟨rfl, hb1⟩); rw [← HT.out]) | (go_at_call 81; refine (failed_any _ _ _).mono ?_; rintro e w' ⟨rfl, rfl⟩) | (go_at_call 57; refine (firstV_any _ _ _ [whenI (rangeB st 0 255) 3, whenI (rangeB ct 0 65535) 3, whenI (rangeB ln 0 8) 3, sampsI [x0, x1, x2, x3, x4, x5, x6, x7], whenI (!samePk st ct ln [x0, x1, x2, x3, x4, x5, x6, x7] st ct ln (trimL ln [x0, x1, x2, x3, x4, x5, x6, x7])) 1] _ ?_ rfl ?_).mono ?_; (first | exact Rd.new _ _ _ _ (by simp) | exact Rd.drew (Rd.new _ _ _ _ (by simp)) | exact Rd.drewN (Rd.new _ _ _ _ (by simp)) _); (simp); rintro e w' ⟨rfl, rfl⟩))
  all_goals go_wp2
  all_goals go_ret
  all_goals exact ⟨rfl, belowPk (by assumption)⟩
end Go.Proofs.YtkfkmnfejeocpaaGreatDoor

/- Contracts: spans with one more index. -/
namespace Go.Proofs.YtkfkmnfejeocpaaGreatDoor
set_option linter.all false
open Go.RowKit Go.Fl
set_option linter.unusedVariables false
set_option linter.unusedSimpArgs false

def spanC (l : List (Int × Int)) : List Value := l.flatMap fun p => [.int .i64 p.1, .int .i64 p.2]
theorem spanC_length (l : List (Int × Int)) : (spanC l).length = l.length * 2 := by
  induction l with
  | nil => rfl
  | cons p l ih => simp only [spanC, List.flatMap_cons, List.length_append, List.length_cons, List.length_nil] at ih ⊢; omega
theorem spanC_app (l m : List (Int × Int)) : spanC (l ++ m) = spanC l ++ spanC m := by simp [spanC]
def widL (l : List (Int × Int)) (i : Int) : List (Int × Int) := match l.getLast? with
  | some p => if p.2 = i then l.dropLast ++ [(p.1, i + 1)] else l ++ [(i, i + 1)]
  | none => [(i, i + 1)]

/-- what was done to the slice v, which is now v': nothing but its own row has changed, and its row is the same, or new -/
def Step (w w' : World) (v v' : Value) : Prop := w.grownBy w' v.ownBlock ∧ (v'.ownBlock = v.ownBlock ∨ ∃ k, v'.ownBlock = some k ∧ w.heap.size ≤ k)
theorem Step.keep {w w' : World} {v v' u : Value} {B : Nat} {e : TypeId} {s n : Nat} {xs : List Value} (h : Step w w' v v') (hu : w.ownsRow B e s u n xs) (hd : u.ownBlock = none ∨ u.ownBlock ≠ v.ownBlock) : w'.ownsRow B e s u n xs ∧ (u.ownBlock = none ∨ u.ownBlock ≠ v'.ownBlock) := by
  refine ⟨hu.kept h.1 hd, ?_⟩
  rcases h.2 with h2 | ⟨k, hk, hk2⟩
  · rw [h2]; exact hd
  · rcases hd with hd | hd
    · exact .inl hd
    · cases hub : u.ownBlock with
      | none => exact .inl rfl
      | some j =>
        refine .inr ?_
        have := (hu.lt j hub).2
        rw [hk]
        intro hh
        cases hh
        omega
theorem Step.below {w w' : World} {v v' : Value} {B : Nat} {e : TypeId} {s n : Nat} {xs : List Value} (h : Step w w' v v') (hv : w.ownsRow B e s v n xs) (hB : B ≤ w.heap.size) : Below B w w' :=
  (Below.refl B w).grown h.1 hB (fun k hk => (hv.lt k hk).1)
theorem Step.of_alloc {w w' : World} {v v' : Value} {o : Obj} (h : (w.alloc o).grownBy w' v.ownBlock) (h2 : v'.ownBlock = v.ownBlock ∨ v'.ownBlock = some (w.alloc o).heap.size) : Step w w' v v' := by
  refine ⟨⟨h.os, h.tape, h.output, by have := h.size; simp at this; omega, fun k hk hne => (h.block k (by simp; omega) hne).trans ((Below.heap_alloc w o k hk))⟩, ?_⟩
  rcases h2 with h2 | h2
  · exact .inl h2
  · exact .inr ⟨_, h2, by simp⟩

theorem news2 (w : World) (u u' : Value) (t : TypeId) (a : Addr) (ha : a = ⟨w.heap.size, 0, none⟩) : ∀ j x, [u, u'][j]? = some x → (w.alloc (.cells #[u, u'] t)).cell? (a.add j) = some x := by
  subst ha
  intro j x hx
  match j, hx with
  | 0, hx => simp at hx; subst hx; simp [Addr.add]
  | 1, hx => simp at hx; subst hx; simp [Addr.add]
theorem info94 : (Tryz.prog.info? 77).map (fun i => (i.zero, i.size, i.bytes)) = some (some (.agg #[.int .i64 0, .int .i64 0]), 2, 16) := by kernel_rfl

set_option maxRecDepth 100000 in
set_option maxHeartbeats 600000 in
theorem widened_any (B : Nat) (v : Value) (l : List (Int × Int)) (i : Int) (w : World) (hown : w.ownsRow B 77 2 v l.length (spanC l)) (hB : B ≤ w.heap.size) (hl : l.length ≤ 1000000) (hi : 0 ≤ i ∧ i ≤ 1000000000) :
    Calls Tryz.prog 68 #[v, .int .i64 i] w fun e w' => ∃ v', e = .returned v' ∧ w'.ownsRow B 77 2 v' (widL l i).length (spanC (widL l i)) ∧ Step w w' v v' := by
  obtain ⟨i0, hi0, hz0, hz1, hz2⟩ := info_parts info94
  rcases List.eq_nil_or_concat l with rfl | ⟨init, p, rfl⟩
  · have hv : v = .slice none 0 0 ∨ ∃ g cap, v = .slice (some ⟨g, 0, none⟩) 0 cap := by
      rcases hown.2 with ⟨h, _⟩ | ⟨g, cap, cur, h, _⟩
      · exact .inl h
      · exact .inr ⟨g, cap, h⟩
    have hw : Hid (widL [] i = [] ++ [(i, i + 1)]) := rfl
    have Hown := Lib.hid hown
    clear hown
    obtain ⟨A, c, rfl⟩ : ∃ A c, v = .slice A 0 c := by
      rcases hv with rfl | ⟨g, cap, rfl⟩
      · exact ⟨_, _, rfl⟩
      · exact ⟨_, _, rfl⟩
    clear hv
    go_enter Tryz.func68, Tryz.ntmps68
    go_wp2_with (at_builtin; refine wpList_append_own_at _ rfl _ _ 72 rfl B 77 i0 (.agg #[.int .i64 0, .int .i64 0]) 2 16 Tryz.underlying72 hi0 hz0 hz1 hz2 rfl (by decide) _ 0 [] rfl (Hown.out.alloc _) ⟨w.heap.size, 0, none⟩ 1 1 [.int .i64 i, .int .i64 (i + 1)] rfl rfl (news2 _ _ _ _ _ rfl) (by simp [Value.oneCell']) ?c3 ?c4 ?c5 ?_)
    case c3 => unfold maxLen; omega
    case c4 => omega
    case c5 => simp; omega
    intro v' w1 ho hg _ hat
    have Ho : Hid (w1.ownsRow B 77 2 v' (widL [] i).length (spanC (widL [] i))) := by unfold Hid; rw [hw.out, spanC_app]; simpa [spanC] using ho
    have Hs := Lib.hid (Step.of_alloc hg (by rw [World.size_alloc]; exact hat))
    clear ho hg hat
    go_wp2
    go_ret
    exact ⟨_, rfl, Ho.out, Hs.out⟩
  · obtain ⟨f, t⟩ := p
    rw [List.concat_eq_append] at *
    obtain ⟨g, cap, rfl, hBg, hgs⟩ := ownsRow.addr hown (by simp)
    have hlen : (init ++ [(f, t)]).length = init.length + 1 := by simp
    rw [hlen] at hown hl
    have hcell : w.cell? ⟨g, init.length * 2 + 1, none⟩ = some (.int .i64 t) := by
      rw [hown.cellAt _ (by omega), spanC_app, List.getElem?_append_right (by rw [spanC_length]; omega), spanC_length]
      have : init.length * 2 + 1 - init.length * 2 = 1 := by omega
      rw [this]; rfl
    have hfree := hown.frozenAt (init.length * 2 + 1)
    have hst := hown.stored (init.length * 2 + 1) (.int .i64 (i + 1))
    have Hown := Lib.hid hown
    have Hst := Lib.hid hst
    clear hown hst
    obtain ⟨k, hk⟩ : ∃ k, init.length = k := ⟨_, rfl⟩
    have Hk := Lib.hid hk
    rw [hk] at hcell hfree hl hlen
    clear hk
    have h1 : IntKind.i64.wrap ((k : Int) + 1 - 1) = (k : Int) := by rw [show (k : Int) + 1 - 1 = k by omega]; exact IntWalk.i64_in _ (by omega)
    by_cases hti : t = i
    · subst hti
      have hw : Hid (widL (init ++ [(f, t)]) t = init ++ [(f, t + 1)]) := by unfold Hid widL; simp
      rw [hlen]
      clear hlen
      go_enter Tryz.func68, Tryz.ntmps68
      go_wp2
      go_ret
      have e : (widL (init ++ [(f, t)]) t).length = k + 1 := by rw [hw.out, ← Hk.out]; simp
      have e2 : (spanC (init ++ [(f, t)])).set (k * 2 + 1) (.int .i64 (t + 1)) = spanC (widL (init ++ [(f, t)]) t) := by
        rw [hw.out, spanC_app, spanC_app, List.set_append_right _ _ (by rw [spanC_length, Hk.out]; omega), spanC_length, Hk.out]
        have : k * 2 + 1 - k * 2 = 1 := by omega
        rw [this]; rfl
      have h := Hst.out
      rw [Hk.out, e2] at h
      exact ⟨_, rfl, by rw [e]; exact h.1, h.2, .inl rfl⟩
    · have hti2 : (t == i) = false := by simpa using hti
      have hw : Hid (widL (init ++ [(f, t)]) i = (init ++ [(f, t)]) ++ [(i, i + 1)]) := by unfold Hid widL; simp [hti]
      have Hti := Lib.hid hti
      rw [Hk.out] at Hown
      rw [hlen]
      clear hlen hti Hst
      go_enter Tryz.func68, Tryz.ntmps68
      go_wp2_with (at_builtin; refine wpList_append_own_at _ rfl _ _ 72 rfl B 77 i0 (.agg #[.int .i64 0, .int .i64 0]) 2 16 Tryz.underlying72 hi0 hz0 hz1 hz2 rfl (by decide) _ (k + 1) (spanC (init ++ [(f, t)])) rfl (Hown.out.alloc _) ⟨w.heap.size, 0, none⟩ 1 1 [.int .i64 i, .int .i64 (i + 1)] rfl rfl (news2 _ _ _ _ _ rfl) (by simp [Value.oneCell']) ?c3 ?c4 ?c5 ?_)
      case c3 => unfold maxLen; omega
      case c4 => omega
      case c5 => simp; omega
      intro v' w1 ho hg _ hat
      have Ho : Hid (w1.ownsRow B 77 2 v' (widL (init ++ [(f, t)]) i).length (spanC (widL (init ++ [(f, t)]) i))) := by
        unfold Hid; rw [hw.out, spanC_app]
        have e : (init ++ [(f, t)] ++ [(i, i + 1)]).length = k + 1 + 1 := by rw [← Hk.out]; simp
        rw [e]; exact ho
      have Hs := Lib.hid (Step.of_alloc hg (by rw [World.size_alloc]; exact hat))
      clear ho hg hat
      go_wp2
      go_ret
      exact ⟨_, rfl, Ho.out, Hs.out⟩
end Go.Proofs.YtkfkmnfejeocpaaGreatDoor

/- Contracts: samples that are held; where a span ends. -/
namespace Go.Proofs.YtkfkmnfejeocpaaGreatDoor
set_option linter.all false
open Go.RowKit Go.Fl
set_option linter.unusedVariables false
set_option linter.unusedSimpArgs false


theorem flts_snoc (xs : List Nat) (b k : Nat) : flts (xs ++ List.replicate (k + 1) b) = flts (xs ++ List.replicate k b) ++ [.float .f32 b] := by
  rw [List.replicate_succ', ← List.append_assoc]; simp [flts]

def onB (x : Nat) : Bool := FloatKind.f32.format.order x 1056964608 == some .gt || FloatKind.f32.format.order x 1056964608 == some .eq
set_option maxHeartbeats 400000 in
theorem isOn_any (x : Nat) (w : World) : Calls Tryz.prog 93 #[.float .f32 x] w fun e w' => e = .returned (.bool (onB x)) ∧ w = w' := by
  go_enter Tryz.func93, Tryz.ntmps93
  go_wp2
  go_ret
  exact ⟨rfl, rfl⟩

/-- how many samples from the head on are on (or off) as the flag says -/
def runL (on : Bool) : List Nat → Nat
  | [] => 0
  | x :: xs => if onB x = on then runL on xs + 1 else 0
def spanEndL (xs : List Nat) (i : Nat) : Nat := i + 1 + runL (onB (xs.getD i 0)) (xs.drop (i + 1))
theorem runL_drop (on : Bool) (xs : List Nat) (k : Nat) (hk : k < xs.length) : runL on (xs.drop k) = if onB xs[k] = on then runL on (xs.drop (k + 1)) + 1 else 0 := by
  rw [List.drop_eq_getElem_cons hk, runL]
theorem runL_le (on : Bool) (xs : List Nat) : runL on xs ≤ xs.length := by
  induction xs with
  | nil => simp [runL]
  | cons x xs ih => rw [runL]; split <;> simp <;> omega

theorem quiet_same {P : Program} {f : FuncId} {args : Array Value} {w : World} {v : Value} {n : Nat} (h : Calls P f args (w.drewN n) fun e w' => e = .returned v ∧ w.drewN n = w') : Calls P f args (w.drewN n) fun e w'' => e = .returned v ∧ ∃ m, w'' = w.drewN m :=
  h.mono fun _ _ ⟨he, hm⟩ => ⟨he, n, hm.symm⟩

theorem quiet_same2 {P : Program} {f : FuncId} {args : Array Value} {w : World} {v : Value} {a n : Nat} (h : Calls P f args (w.drewN (a + n)) fun e w' => e = .returned v ∧ w.drewN (a + n) = w') : Calls P f args (w.drewN (a + n)) fun e w'' => e = .returned v ∧ ∃ m, w'' = w.drewN (a + m) :=
  h.mono fun _ _ ⟨he, hm⟩ => ⟨he, n, hm.symm⟩

set_option maxRecDepth 100000 in
set_option maxHeartbeats 1000000 in
theorem spanEnd_any (A : Option Addr) (n c : Nat) (xs : List Nat) (i : Nat) (w : World) (hA : Rd w A (flts xs)) (hn : n = xs.length) (hi : i < xs.length) (hm : xs.length ≤ 9223372036854775806) :
    Calls Tryz.prog 92 #[.slice A n c, .int .i64 i] w fun e w' => e = .returned (.int .i64 (spanEndL xs i : Nat)) ∧ ∃ q, w' = w.drewN q := by
  subst hn
  obtain ⟨b, off, rfl, hci⟩ := Rd.flt hA hi
  have hgi := Lib.hid (show xs.getD i 0 = xs[i] by simp [hi])
  go_enter Tryz.func92, Tryz.ntmps92
  go_wp2
  go_loopw [5] (fun t wr => ∃ k : Nat, i + 1 ≤ k ∧ k ≤ xs.length ∧ t = .int .i64 k ∧ Hid (k + runL (onB xs[i]) (xs.drop k) = spanEndL xs i) ∧ ∃ q, wr = w.drewN q) (fun t _ => xs.length - (intOf t).toNat)
  case atStart => exact ⟨i + 1, Nat.le_refl _, hi, by go_num, by show _ = _; rw [spanEndL, hgi.out], 0, rfl⟩
  case round =>
    obtain ⟨k, hk1, hk, rfl, H, q, rfl⟩ := hrel
    by_cases hlt : k < xs.length
    · obtain ⟨b', off', hab, hck⟩ := Rd.flt hA hlt
      cases hab
      have hr := Lib.hid (runL_drop (onB xs[i]) xs k hlt)
      have i1 : (k : Int) < (xs.length : Int) := by omega
      have i2 : (i : Int) < (xs.length : Int) := by omega
      cases hon : (onB xs[k] == onB xs[i])
      · have Hon := Lib.hid (show onB xs[k] ≠ onB xs[i] by simpa using hon)
        go_wp2
        go_quiet ((go_at_call 93; exact quiet_same2 (isOn_any _ _)))
        go_wp2
        go_ret
        exact ⟨ret_int (by rw [← H.out, hr.out, if_neg Hon.out]; rfl), q + _, by rw [World.drewN_drewN]⟩
      · have Hon := Lib.hid (show onB xs[k] = onB xs[i] by simpa using hon)
        go_wp2
        go_quiet ((go_at_call 93; exact quiet_same2 (isOn_any _ _)))
        go_wp2
        go_roundw
        case rel => exact ⟨k + 1, by omega, by omega, by go_num, by show _ = _; rw [← H.out, hr.out, if_pos Hon.out]; omega, _, rfl⟩
        case measure => simp [intOf]; omega
    · have hd : decide ((k : Int) < (xs.length : Int)) = false := by simp; omega
      go_wp2
      go_quiet (fail)
      go_wp2
      go_ret
      exact ⟨ret_int (by rw [← H.out, List.drop_of_length_le (by omega)]; rfl), q + _, by rw [World.drewN_drewN]⟩
end Go.Proofs.YtkfkmnfejeocpaaGreatDoor

/- Contracts: spans, words and marks are compared; samples are made. -/
namespace Go.Proofs.YtkfkmnfejeocpaaGreatDoor
set_option linter.all false
open Go.RowKit Go.Fl
set_option linter.unusedVariables false
set_option linter.unusedSimpArgs false

theorem spanC_get (l : List (Int × Int)) (k : Nat) (hk : k < l.length) : (spanC l)[k * 2]? = some (.int .i64 l[k].1) ∧ (spanC l)[k * 2 + 1]? = some (.int .i64 l[k].2) := by
  induction l generalizing k with
  | nil => simp at hk
  | cons p l ih =>
    match k, hk with
    | 0, _ => exact ⟨rfl, rfl⟩
    | k + 1, hk =>
      have h := ih k (by simpa using hk)
      have e1 : (k + 1) * 2 = k * 2 + 2 := by omega
      have e2 : (k + 1) * 2 + 1 = k * 2 + 1 + 2 := by omega
      rw [e1, show k * 2 + 2 + 1 = k * 2 + 1 + 2 by omega]
      exact ⟨by simpa [spanC] using h.1, by simpa [spanC] using h.2⟩
theorem Rd.span {w : World} {A : Option Addr} {l : List (Int × Int)} (h : Rd w A (spanC l)) {k : Nat} (hk : k < l.length) : ∃ b off, A = some ⟨b, off, none⟩ ∧ w.cell? ⟨b, off + k * 2, none⟩ = some (.int .i64 l[k].1) ∧ w.cell? ⟨b, off + k * 2 + 1, none⟩ = some (.int .i64 l[k].2) := by
  obtain ⟨h1, h2⟩ := spanC_get l k hk
  obtain ⟨b, off, hA, hc1⟩ := h _ _ h1
  obtain ⟨b', off', hA', hc2⟩ := h _ _ h2
  rw [hA] at hA'
  cases hA'
  exact ⟨b, off, hA, hc1, by rw [Nat.add_assoc]; exact hc2⟩

def sameSp : List (Int × Int) → List (Int × Int) → Bool
  | [], [] => true
  | p :: l, q :: m => (p.1 == q.1 && p.2 == q.2) && sameSp l m
  | _, _ => false
theorem sameSp_length {l m : List (Int × Int)} (h : l.length ≠ m.length) : sameSp l m = false := by
  induction l generalizing m with
  | nil => cases m with
    | nil => exact absurd rfl h
    | cons q m => rfl
  | cons p l ih => cases m with
    | nil => rfl
    | cons q m => rw [sameSp, ih (by simpa using h), Bool.and_false]
theorem sameSp_drop {l m : List (Int × Int)} {k : Nat} (hx : k < l.length) (hy : k < m.length) : sameSp (l.drop k) (m.drop k) = ((l[k].1 == m[k].1 && l[k].2 == m[k].2) && sameSp (l.drop (k + 1)) (m.drop (k + 1))) := by
  rw [List.drop_eq_getElem_cons hx, List.drop_eq_getElem_cons hy, sameSp]
theorem fields94 : ((Tryz.prog.fieldsOf 77).toList.map fun f => (f.name, f.type, f.offset)) = [("From", 3, 0), ("To", 3, 1)] := by kernel_rfl
theorem neqSpan (a b c d : Int) (w : World) : (binOp .neq 77 (.agg #[.int .i64 a, .int .i64 b]) (.agg #[.int .i64 c, .int .i64 d])).run Tryz.prog w = .ok (.bool (!(a == c && b == d))) w := by
  have i3 := Tryz.underlying3
  have e1 : ∀ a b : Int, (part 3 #[.int .i64 a, .int .i64 b] 0).run Tryz.prog w = .ok (.int .i64 a) w := fun a b => part_int _ _ _ rfl w
  have e2 : ∀ a b : Int, (part 3 #[.int .i64 a, .int .i64 b] 1).run Tryz.prog w = .ok (.int .i64 b) w := fun a b => part_int _ _ _ rfl w
  have e4 := fun (a b : Int) => run_equalIn_int (P := Tryz.prog) w 9998 3 .i64 .i64 a b i3
  have n1 : ("From" : String) ≠ "_" := by decide
  have n2 : ("To" : String) ≠ "_" := by decide
  rw [run_neq_struct, run_eqStruct w 9999 _ _ _ _ (by kernel_rfl) (by kernel_rfl) fields94]
  simp only [eqTriples, if_pos n1, if_pos n2, Sem.run_bind, e1, e2, e4, Result.andThen_ok, Sem.run_ite, Sem.run_pure]
  cases a == c <;> cases b == d <;> simp [e1, e2, e4]

set_option maxHeartbeats 400000 in
theorem sameSpans_any (A B : Option Addr) (n m c d : Nat) (xs ys : List (Int × Int)) (w : World) (hA : Rd w A (spanC xs)) (hB : Rd w B (spanC ys)) (hn : n = xs.length) (hm : m = ys.length) (hx : xs.length ≤ 4611686018427387903) :
    Calls Tryz.prog 24 #[.slice A n c, .slice B m d] w fun e w' => e = .returned (.bool (sameSp xs ys)) ∧ ∃ q, w' = w.drewN q := by
  subst hn; subst hm
  by_cases hl : xs.length = ys.length
  · have hl1 : ((xs.length : Int) != (ys.length : Int)) = false := by rw [bne_eq_false_iff_eq]; omega
    have HL := Lib.hid hl; clear hl
    go_enter Tryz.func24, Tryz.ntmps24
    go_wp2
    go_loopw [5] (fun i wr => ∃ k : Nat, k ≤ xs.length ∧ i = .int .i64 k ∧ Hid (sameSp (xs.drop k) (ys.drop k) = sameSp xs ys) ∧ ∃ q, wr = w.drewN q) (fun i _ => xs.length - (intOf i).toNat)
    case atStart => exact ⟨0, Nat.zero_le _, rfl, rfl, 0, rfl⟩
    case round =>
      obtain ⟨k, hk, rfl, H, q, rfl⟩ := hrel
      by_cases hlt : k < xs.length
      · have hlt2 : k < ys.length := by rw [← HL.out]; exact hlt
        obtain ⟨b, off, rfl, hc1, hc2⟩ := Rd.span hA hlt
        obtain ⟨b', off', rfl, hc1', hc2'⟩ := Rd.span hB hlt2
        have i1 : (k : Int) < (xs.length : Int) := by omega
        have i2 : (k : Int) < (ys.length : Int) := by omega
        have HS := Lib.hid (sameSp_drop hlt hlt2)
        have hneq := neqSpan xs[k].1 xs[k].2 ys[k].1 ys[k].2
        cases ho : (xs[k].1 == ys[k].1 && xs[k].2 == ys[k].2)
        · have Ho := Lib.hid ho
          rw [ho] at hneq
          clear ho
          go_wp2
          go_quiet (fail)
          go_wp2
          go_ret
          exact ⟨ret_bool (by rw [← H.out, HS.out, Ho.out]; rfl), q + _, by rw [World.drewN_drewN]⟩
        · have Ho := Lib.hid ho
          rw [ho] at hneq
          clear ho
          go_wp2
          go_quiet (fail)
          go_wp2
          go_roundw
          case rel => exact ⟨k + 1, by omega, by go_num, by show _ = _; rw [← H.out, HS.out, Ho.out]; rfl, _, rfl⟩
          case measure => simp [intOf]; omega
      · go_wp2
        go_ret
        exact ⟨ret_bool (by rw [← H.out, List.drop_of_length_le (by omega), List.drop_of_length_le (by rw [← HL.out]; omega)]; rfl), q, rfl⟩
  · have hl1 : ((xs.length : Int) != (ys.length : Int)) = true := by rw [bne_iff_ne]; omega
    have HL := Lib.hid hl; clear hl
    go_enter Tryz.func24, Tryz.ntmps24
    go_wp2
    go_ret
    exact ⟨ret_bool (sameSp_length HL.out).symm, 0, rfl⟩
end Go.Proofs.YtkfkmnfejeocpaaGreatDoor
