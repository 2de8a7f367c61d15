/- Texts that were made one by one: Aq Az Be Un. -/
import Derived.Test.YtjgofnbfpoephaaGreatDoorM09
import Derived.Test.YtjgofnbfpoephaaGreatDoorM08
import Derived.Lib.AppendZerosOnto
import Derived.Test.YtjgofnbfpoephaaGreatDoorM10
/- Contracts: packets with the index of their first sample. -/
namespace Go.Proofs.YtjgofnbfpoephaaGreatDoor
set_option linter.all false
open Go.RowKit Go.Fl
set_option linter.unusedVariables false
set_option linter.unusedSimpArgs false

def plV (p : PkT) : List Value := pkV p ++ [.int .i64 (8 * p.2.1)]
def plC (l : List PkT) : List Value := l.flatMap plV
theorem plV_length {p : PkT} (h : p.2.2.2.length = 8) : (plV p).length = 12 := by simp [plV, pkV_length h]

set_option maxRecDepth 100000 in
set_option maxHeartbeats 400000 in
theorem placed1_any (st ct ln : Int) (x0 x1 x2 x3 x4 x5 x6 x7 : Nat) (w : World) (hct : 0 ≤ ct ∧ ct ≤ 65535) : Calls Tryz.prog 118 #[.agg #[.int .i64 st, .int .i64 ct, .int .i64 ln, .float .f32 x0, .float .f32 x1, .float .f32 x2, .float .f32 x3, .float .f32 x4, .float .f32 x5, .float .f32 x6, .float .f32 x7]] w fun e w' => e = .returned (.agg #[.int .i64 st, .int .i64 ct, .int .i64 ln, .float .f32 x0, .float .f32 x1, .float .f32 x2, .float .f32 x3, .float .f32 x4, .float .f32 x5, .float .f32 x6, .float .f32 x7, .int .i64 (8 * ct)]) ∧ Below w.heap.size w w' := by
  have e1 : IntKind.i64.wrap (8 * ct) = 8 * ct := IntWalk.i64_in _ (by omega)
  have e2 : wrap64 (8 * ct) = 8 * ct := by unfold wrap64; omega
  go_enter Tryz.func118, Tryz.ntmps118
  go_wp2
  exact bodyPost_ret (v := .agg #[.int .i64 st, .int .i64 ct, .int .i64 ln, .float .f32 x0, .float .f32 x1, .float .f32 x2, .float .f32 x3, .float .f32 x4, .float .f32 x5, .float .f32 x6, .float .f32 x7, .int .i64 (8 * ct)]) (by simp [results, Tryz.results118, go_sem]) rfl ⟨rfl, by repeat (first | exact Below.refl _ _ | refine Below.setCell ?_ (by simp) _ | refine Below.alloc ?_ (by simp) _)⟩

theorem makeS {P : Program} (t e : TypeId) (z : Value) (zs : Array Value) (bytes : Nat) (ht : P.underlying t = some (.slice e)) (hinfo : (P.info? e).map (fun i => (i.zero, i.size, i.bytes)) = some (some z, zs.size, bytes)) (hz : z.cells = zs)
    (n : Nat) (hn : bytes * n ≤ 281474976710656) (h63 : n ≤ 9223372036854775807) (w : World) :
    (Instr.makeSlice t (.int .i64 (n : Int)) (.int .i64 (n : Int))).run P w = .ok (.slice (some ⟨w.heap.size, 0, none⟩) n n) (w.alloc (.cells (madeCells zs (n * zs.size)) e)) := by
  obtain ⟨i, hi, h1, h2, h3⟩ := info_parts hinfo
  have hb : (i.bytes : Int) * (n : Int) ≤ 281474976710656 := by
    rw [h3]
    have h : ((bytes * n : Nat) : Int) ≤ 281474976710656 := by omega
    rwa [Int.natCast_mul] at h
  have h := run_make w t e i z ht hi h1 .i64 .i64 n n (by omega) (by omega) hb (by omega)
  rw [Int.toNat_natCast, h2, hz] at h
  exact h
def setsFrom (L : List Value) (o : Nat) : List Value → List Value
  | [] => L
  | v :: vs => setsFrom (L.set o v) (o + 1) vs
theorem setsFrom_eq (vs : List Value) : ∀ (X R : List Value), vs.length ≤ R.length → setsFrom (X ++ R) X.length vs = X ++ vs ++ R.drop vs.length := by
  induction vs with
  | nil => intro X R _; simp [setsFrom]
  | cons v vs ih =>
    intro X R h
    match R, h with
    | r :: R, h =>
      rw [setsFrom, List.set_append_right _ _ (Nat.le_refl _), Nat.sub_self, List.set_cons_zero]
      have h2 := ih (X ++ [v]) R (by simpa using h)
      rw [List.length_append, List.length_singleton, List.append_assoc, List.singleton_append] at h2
      rw [h2]; simp
theorem setsBlock (X M vs : List Value) (k s : Nat) (hs : vs.length = s) (hX : X.length = k * s) (hM : (k + 1) * s ≤ M.length) : setsFrom (X ++ M.drop (k * s)) (k * s) vs = X ++ vs ++ M.drop ((k + 1) * s) := by
  have h := setsFrom_eq vs X (M.drop (k * s)) (by rw [List.length_drop, hs]; rw [Nat.succ_mul] at hM; omega)
  rw [hX] at h
  rw [h, List.drop_drop, hs, Nat.succ_mul]
theorem info182 : (Tryz.prog.info? 182).map (fun i => (i.zero, i.size, i.bytes)) = some (some (.agg #[.int .i64 0, .int .i64 0, .int .i64 0, .float .f32 0, .float .f32 0, .float .f32 0, .float .f32 0, .float .f32 0, .float .f32 0, .float .f32 0, .float .f32 0, .int .i64 0]), 12, 64) := by kernel_rfl

set_option maxRecDepth 100000 in
set_option maxHeartbeats 1000000 in
theorem mappedPl_any (A : Option Addr) (n c : Nat) (ps : List PkT) (w : World) (hA : Rd w A (pksC ps)) (h8 : pks8 ps) (hct : ∀ p ∈ ps, 0 ≤ p.2.1 ∧ p.2.1 ≤ 65535) (hn : n = ps.length) (hm : ps.length ≤ 1024) :
    Calls Tryz.prog 117 #[.slice A n c, .func (.func 118) #[] #[]] w fun e w' => ∃ g, e = .returned (.slice (some ⟨g, 0, none⟩) n n) ∧ Row w' g 182 (plC ps) ∧ w.heap.size ≤ g ∧ Below w.heap.size w w' := by
  subst hn
  have hmk0 := fun W : World => makeS (P := Tryz.prog) 179 182 (.agg #[.int .i64 0, .int .i64 0, .int .i64 0, .float .f32 0, .float .f32 0, .float .f32 0, .float .f32 0, .float .f32 0, .float .f32 0, .float .f32 0, .float .f32 0, .int .i64 0]) #[.int .i64 0, .int .i64 0, .int .i64 0, .float .f32 0, .float .f32 0, .float .f32 0, .float .f32 0, .float .f32 0, .float .f32 0, .float .f32 0, .float .f32 0, .int .i64 0] 64 Tryz.underlying179 info182 rfl ps.length (by omega) (by omega) W
  have hmk : ∀ W : World, (Instr.makeSlice 179 (.int .i64 (ps.length : Int)) (.int .i64 (ps.length : Int))).run Tryz.prog W = .ok (.slice (some ⟨W.heap.size, 0, none⟩) ps.length ps.length) (W.alloc (.cells (madeCells #[.int .i64 0, .int .i64 0, .int .i64 0, .float .f32 0, .float .f32 0, .float .f32 0, .float .f32 0, .float .f32 0, .float .f32 0, .float .f32 0, .float .f32 0, .int .i64 0] (ps.length * 12)) 182)) := hmk0
  clear hmk0
  have hMl : (madeCells #[.int .i64 0, .int .i64 0, .int .i64 0, .float .f32 0, .float .f32 0, .float .f32 0, .float .f32 0, .float .f32 0, .float .f32 0, .float .f32 0, .float .f32 0, .int .i64 0] (ps.length * 12)).toList.length = ps.length * 12 := by simp [size_madeCells]
  obtain ⟨M, hM⟩ : ∃ M : List Value, (madeCells #[.int .i64 0, .int .i64 0, .int .i64 0, .float .f32 0, .float .f32 0, .float .f32 0, .float .f32 0, .float .f32 0, .float .f32 0, .float .f32 0, .float .f32 0, .int .i64 0] (ps.length * 12)) = M.toArray := ⟨_, (Array.toArray_toList ..).symm⟩
  rw [hM] at hmk hMl
  have HMl : Hid (M.length = ps.length * 12) := by unfold Hid; simpa using hMl
  have HA := Lib.hid hA; have H8 := Lib.hid h8; have HCT := Lib.hid hct
  clear hM hMl hA h8 hct
  go_enter Tryz.func117, Tryz.ntmps117
  go_wp2
  go_loopw [13] (fun i wr => ∃ k : Nat, k ≤ ps.length ∧ i = .int .i64 k ∧ Hid (Row wr w.heap.size 182 (plC (ps.take k) ++ M.drop (k * 12))) ∧ Hid (Below w.heap.size w wr)) (fun i _ => ps.length - (intOf i).toNat)
  case atStart => exact ⟨0, Nat.zero_le _, rfl, by have := Row.new w 182 M; show Row _ _ _ _; simpa [plC] using this, (Below.refl _ _).alloc (Nat.le_refl _) _⟩
  case round =>
    obtain ⟨k, hk, rfl, Hrow, Hb⟩ := hrel
    by_cases hlt : k < ps.length
    · obtain ⟨b, off, hAb, hc⟩ := Rd.flat (HA.out.below Hb.out) (fun p hp => pkV_length (H8.out p hp)) (by decide) hlt
      subst hAb
      obtain ⟨st, ct, ln, x0, x1, x2, x3, x4, x5, x6, x7, hp⟩ := pk_form (H8.out _ (List.getElem_mem hlt))
      have hct := HCT.out _ (List.getElem_mem hlt)
      rw [hp] at hc hct
      have c0 := hc 0 _ rfl
      have c1 := hc 1 _ rfl
      have c2 := hc 2 _ rfl
      have c3 := hc 3 _ rfl
      have c4 := hc 4 _ rfl
      have c5 := hc 5 _ rfl
      have c6 := hc 6 _ rfl
      have c7 := hc 7 _ rfl
      have c8 := hc 8 _ rfl
      have c9 := hc 9 _ rfl
      have c10 := hc 10 _ rfl
      rw [Nat.add_zero] at c0
      have hct : 0 ≤ ct ∧ ct ≤ 65535 := hct
      have hX : (plC (ps.take k)).length = k * 12 := by
        rw [plC, flat_length plV 12 _ (fun p hp => plV_length (H8.out p (List.mem_of_mem_take hp))), List.length_take, Nat.min_eq_left hk]
      have hset := setsBlock (plC (ps.take k)) M [.int .i64 st, .int .i64 ct, .int .i64 ln, .float .f32 x0, .float .f32 x1, .float .f32 x2, .float .f32 x3, .float .f32 x4, .float .f32 x5, .float .f32 x6, .float .f32 x7, .int .i64 (8 * ct)] k 12 rfl hX (by rw [HMl.out]; exact Nat.mul_le_mul_right _ hlt)
      have htk : plC (ps.take (k + 1)) = plC (ps.take k) ++ [.int .i64 st, .int .i64 ct, .int .i64 ln, .float .f32 x0, .float .f32 x1, .float .f32 x2, .float .f32 x3, .float .f32 x4, .float .f32 x5, .float .f32 x6, .float .f32 x7, .int .i64 (8 * ct)] := by
        rw [List.take_succ_eq_append_getElem hlt]
        simp [plC, hp, plV, pkV, pkC, flts]
      rw [← htk] at hset
      have Hset := Lib.hid hset
      have HX := Lib.hid hX
      have HCt := Lib.hid hct
      clear hset htk hc hp hX hct
      go_wp2_with fail
      refine (placed1_any st ct ln x0 x1 x2 x3 x4 x5 x6 x7 _ HCt.out).mono ?_
      rintro e w1 ⟨rfl, hb1⟩
      have Hb1 : Hid (Below w.heap.size w w1) := (Hb.out.alloc Hb.out.size _).trans (hb1.mono (by have := Hb.out.size; simp; omega))
      have Hrow1 := Lib.hid ((Hrow.out.alloc _).old hb1)
      have hl1 : (k + 1) * 12 ≤ (plC (ps.take k) ++ M.drop (k * 12)).length := by rw [List.length_append, HX.out, List.length_drop, HMl.out]; omega
      obtain ⟨v0, hv0⟩ : ∃ v, w1.cell? ⟨w.heap.size, k * 12, none⟩ = some v := ⟨_, Hrow1.out.cellAt (by omega)⟩
      have hf0 := Hrow1.out.free (k * 12)
      obtain ⟨v1, hv1⟩ : ∃ v, w1.cell? ⟨w.heap.size, k * 12 + 1, none⟩ = some v := ⟨_, Hrow1.out.cellAt (by omega)⟩
      have hf1 := Hrow1.out.free (k * 12 + 1)
      obtain ⟨v2, hv2⟩ : ∃ v, w1.cell? ⟨w.heap.size, k * 12 + 2, none⟩ = some v := ⟨_, Hrow1.out.cellAt (by omega)⟩
      have hf2 := Hrow1.out.free (k * 12 + 2)
      obtain ⟨v3, hv3⟩ : ∃ v, w1.cell? ⟨w.heap.size, k * 12 + 3, none⟩ = some v := ⟨_, Hrow1.out.cellAt (by omega)⟩
      have hf3 := Hrow1.out.free (k * 12 + 3)
      obtain ⟨v4, hv4⟩ : ∃ v, w1.cell? ⟨w.heap.size, k * 12 + 4, none⟩ = some v := ⟨_, Hrow1.out.cellAt (by omega)⟩
      have hf4 := Hrow1.out.free (k * 12 + 4)
      obtain ⟨v5, hv5⟩ : ∃ v, w1.cell? ⟨w.heap.size, k * 12 + 5, none⟩ = some v := ⟨_, Hrow1.out.cellAt (by omega)⟩
      have hf5 := Hrow1.out.free (k * 12 + 5)
      obtain ⟨v6, hv6⟩ : ∃ v, w1.cell? ⟨w.heap.size, k * 12 + 6, none⟩ = some v := ⟨_, Hrow1.out.cellAt (by omega)⟩
      have hf6 := Hrow1.out.free (k * 12 + 6)
      obtain ⟨v7, hv7⟩ : ∃ v, w1.cell? ⟨w.heap.size, k * 12 + 7, none⟩ = some v := ⟨_, Hrow1.out.cellAt (by omega)⟩
      have hf7 := Hrow1.out.free (k * 12 + 7)
      obtain ⟨v8, hv8⟩ : ∃ v, w1.cell? ⟨w.heap.size, k * 12 + 8, none⟩ = some v := ⟨_, Hrow1.out.cellAt (by omega)⟩
      have hf8 := Hrow1.out.free (k * 12 + 8)
      obtain ⟨v9, hv9⟩ : ∃ v, w1.cell? ⟨w.heap.size, k * 12 + 9, none⟩ = some v := ⟨_, Hrow1.out.cellAt (by omega)⟩
      have hf9 := Hrow1.out.free (k * 12 + 9)
      obtain ⟨v10, hv10⟩ : ∃ v, w1.cell? ⟨w.heap.size, k * 12 + 10, none⟩ = some v := ⟨_, Hrow1.out.cellAt (by omega)⟩
      have hf10 := Hrow1.out.free (k * 12 + 10)
      obtain ⟨v11, hv11⟩ : ∃ v, w1.cell? ⟨w.heap.size, k * 12 + 11, none⟩ = some v := ⟨_, Hrow1.out.cellAt (by omega)⟩
      have hf11 := Hrow1.out.free (k * 12 + 11)
      clear hb1 hl1
      go_wp2
      go_roundw
      case rel => exact ⟨k + 1, by omega, by go_num, by show Row _ _ _ _; rw [← Hset.out]; exact ((((((((((((Hrow1.out.set (k * 12) _).set (k * 12 + 1) _).set (k * 12 + 2) _).set (k * 12 + 3) _).set (k * 12 + 4) _).set (k * 12 + 5) _).set (k * 12 + 6) _).set (k * 12 + 7) _).set (k * 12 + 8) _).set (k * 12 + 9) _).set (k * 12 + 10) _).set (k * 12 + 11) _), ((((((((((((Hb1.out.setCell (by simp) _).setCell (by simp) _).setCell (by simp) _).setCell (by simp) _).setCell (by simp) _).setCell (by simp) _).setCell (by simp) _).setCell (by simp) _).setCell (by simp) _).setCell (by simp) _).setCell (by simp) _).setCell (by simp) _)⟩
      case measure => simp [intOf]; omega
    · obtain rfl : k = ps.length := by omega
      go_wp2
      go_ret
      exact ⟨_, rfl, by have h := Hrow.out; rw [List.take_of_length_le (Nat.le_refl _), List.drop_of_length_le (by rw [HMl.out]; omega), List.append_nil] at h; exact h, Nat.le_refl _, Hb.out⟩
end Go.Proofs.YtjgofnbfpoephaaGreatDoor

/- Contracts: append of a make, in a region whose operations are guarded. -/
namespace Go.Proofs.YtjgofnbfpoephaaGreatDoor
set_option linter.all false
open Go.RowKit Go.Fl
set_option linter.unusedVariables false

theorem wpList_appz {P : Program} {w w' : World} {ops : Array Oper} {rest : List Oper} {o : Oper} {a : Act} {Q : Exit → Act → World → Prop} (hw : Region.wanted o (yielded ops a.tmps) = true) (s x : Operand) (t tx : TypeId)
    (ho : o.op = .call { callee := .builtin .append, args := #[s, x], argTypes := #[t, tx] }) (v : Value)
    (hrun : (Builtin.append_ #[t, tx] o.type #[a.eval s, a.eval x]).run P w = .ok v w')
    (hK : wpList P ops Q rest (a.put o.dst v) w') : wpList P ops Q (o :: rest) a w := by
  refine BigFrame.wpList_want hw fun K hK' => ?_
  unfold Oper.wp
  simp [execOp, ho, resolve, invoke, builtin, hrun, Result.andThen]
  exact hK' _ _ hK

theorem zeroCells_eq (k : Nat) : (Builtin.zeroCells (Value.float .f32 0).cells k).toList = flts (List.replicate k 0) := by
  have : (Value.float .f32 0).cells = #[.float .f32 0] := rfl
  rw [this]
  unfold Builtin.zeroCells
  simp only [flts, List.map_replicate]
  apply List.ext_getElem (by simp)
  intro j h1 h2
  simp [Nat.mod_one]

theorem app_zeros (xs : List Nat) (k : Nat) (K : Int) (hK : K = (k : Int)) (h0 : 0 < k) (hm : xs.length + k ≤ 100) (hfit : Builtin.nextslicecap (xs.length + k) xs.length * 4 ≤ 281474976710656) (w : World) :
    ∃ c w', (Builtin.append_ #[38, 3] 38 #[.slice (some ⟨w.heap.size, 0, none⟩) xs.length xs.length, .int .i64 K]).run Tryz.prog (w.alloc (.cells (flts xs).toArray 37)) = .ok (.slice (some ⟨w.heap.size + 1, 0, none⟩) (xs.length + k) c) w' ∧ Rd w' (some ⟨w.heap.size + 1, 0, none⟩) (flts (xs ++ List.replicate k 0)) ∧ Below w.heap.size w w' := by
  subst hK
  obtain ⟨i, hi, hz0, hz1, hz2⟩ := info_parts info37
  have hold : (Builtin.firstCells i.size xs.length (.slice (some ⟨w.heap.size, 0, none⟩) xs.length xs.length)).run Tryz.prog (w.alloc (.cells (flts xs).toArray 37)).drew = .ok (flts xs).toArray (w.alloc (.cells (flts xs).toArray 37)).drew := by
    refine run_firstCells_some _ i.size xs.length ⟨w.heap.size, 0, none⟩ _ _ (flts xs) (by simp [flts, hz1]) fun j v hv => ?_
    obtain ⟨b, off, hh, hc⟩ := (Rd.row (Row.new w 37 (flts xs))).drew j v hv
    cases hh
    by_cases hj : j = 0
    · subst hj; simpa [Addr.add] using hc
    · simpa [Addr.add, hj] using hc
  have hrun := Lib.run_append_grow_zeros (P := Tryz.prog) (w.alloc (.cells (flts xs).toArray 37)) 38 3 38 37 i (.float .f32 0) .i64 .i64 Tryz.underlying38 Tryz.underlying3 hi hz0 (some ⟨w.heap.size, 0, none⟩) xs.length xs.length (flts xs) hold k h0 (by omega) (by omega) (by omega) (by rw [hz2]; omega) (by rw [hz2]; exact hfit)
  rw [World.size_alloc] at hrun
  refine ⟨_, _, hrun, ?_, ((below_row ((Below.refl w.heap.size w).alloc (Nat.le_refl _) (.cells (flts xs).toArray 37)) 1).alloc (by show w.heap.size ≤ (w.alloc _).heap.size; simp) _)⟩
  have hn := Row.new (w.alloc (.cells (flts xs).toArray 37)).drew 37 (flts (xs ++ List.replicate k 0) ++ (Builtin.zeroCells (Value.float .f32 0).cells (grownCap (w.alloc (.cells (flts xs).toArray 37)) (xs.length + k) xs.length 37 - (xs.length + k))).toList)
  rw [show (w.alloc (.cells (flts xs).toArray 37)).drew.heap.size = w.heap.size + 1 by show (w.alloc _).heap.size = _; simp] at hn
  have he : (flts (xs ++ List.replicate k 0) ++ (Builtin.zeroCells (Value.float .f32 0).cells (grownCap (w.alloc (.cells (flts xs).toArray 37)) (xs.length + k) xs.length 37 - (xs.length + k))).toList).toArray = (flts xs).toArray ++ Builtin.zeroCells (Value.float .f32 0).cells k ++ Builtin.zeroCells (Value.float .f32 0).cells (grownCap (w.alloc (.cells (flts xs).toArray 37)) (xs.length + k) xs.length 37 - (xs.length + k)) := by
    apply Array.toList_inj.1
    simp only [Array.toList_append, List.toList_toArray, zeroCells_eq]
    simp [flts]
  rw [← he]
  have h2 := (Rd.row hn).take (flts (xs ++ List.replicate k 0)).length
  rwa [List.take_left] at h2
end Go.Proofs.YtjgofnbfpoephaaGreatDoor

/- Contracts: does a packet begin here; spans widened. -/
namespace Go.Proofs.YtjgofnbfpoephaaGreatDoor
set_option linter.all false
open Go.RowKit Go.Fl
set_option linter.unusedVariables false
set_option linter.unusedSimpArgs false

def zeros29 : List UInt8 := List.replicate 29 0
def begE (key : List Int) (bs : List UInt8) : Bool := if bs.length < 29 then false else decE key (bs.take 29) == 0
def begC (key : List Int) (bs : List UInt8) : List Value := if bs.length < 29 then zero11 else decC key (bs.take 29)

theorem Rd.src {w : World} {A : Option Addr} {xs : List Value} (h : Rd w A xs) (hx : 0 < xs.length) : ∃ ad, A = some ad ∧ ∀ j v, xs[j]? = some v → w.cell? (ad.add j) = some v := by
  obtain ⟨b, off, rfl, _⟩ := Rd.at h hx
  refine ⟨_, rfl, fun j v hv => ?_⟩
  obtain ⟨b', off', hh, hc⟩ := h j v hv
  cases hh
  by_cases hj : j = 0
  · subst hj; simpa [Addr.add] using hc
  · simpa [Addr.add, hj] using hc

theorem decC_length (key : List Int) (bs : List UInt8) : (decC key bs).length = 11 := by
  unfold decC; split
  · rw [pkC_length]; simp [xsOf]
  · rfl
theorem decC_one (key : List Int) (bs : List UInt8) : ∀ v ∈ decC key bs, v.oneCell' = true := by
  unfold decC; split
  · exact pkC_one _ _ _ _
  · exact pkC_one _ _ _ _

set_option maxRecDepth 100000 in
set_option maxHeartbeats 600000 in
theorem beginning_any (k0 k1 k2 k3 k4 k5 k6 k7 : Int) (A : Option Addr) (n c : Nat) (bs : List UInt8) (w : World) (hA : Rd w A (byts bs)) (hn : n = bs.length) (hm : bs.length ≤ 9223372036854775807) (hkeys : ∀ j (h : j < 8), isByte ([k0, k1, k2, k3, k4, k5, k6, k7][j])) :
    Calls Tryz.prog 113 #[.agg #[.int .u8 k0, .int .u8 k1, .int .u8 k2, .int .u8 k3, .int .u8 k4, .int .u8 k5, .int .u8 k6, .int .u8 k7], .slice A n c] w
      fun e w' => e = .returned (.tuple #[.agg (begC [k0, k1, k2, k3, k4, k5, k6, k7] bs).toArray, .bool (begE [k0, k1, k2, k3, k4, k5, k6, k7] bs)]) ∧ Below w.heap.size w w' := by
  subst hn
  have Hk := Lib.hid hkeys
  clear hkeys
  have R0 := Row.new w 47 (u8s [k0, k1, k2, k3, k4, k5, k6, k7])
  have R1 := Row.new (w.alloc (.cells (u8s [k0, k1, k2, k3, k4, k5, k6, k7]).toArray 47)) 54 zero11
  have R2 := Row.new ((w.alloc (.cells (u8s [k0, k1, k2, k3, k4, k5, k6, k7]).toArray 47)).alloc (.cells zero11.toArray 54)) 51 (byts zeros29)
  rw [World.size_alloc] at R1
  rw [World.size_alloc, World.size_alloc] at R2
  have R0' := (R0.alloc (.cells zero11.toArray 54)).alloc (.cells (byts zeros29).toArray 51)
  have R1' := R1.alloc (.cells (byts zeros29).toArray 51)
  have RB := (((Below.refl w.heap.size w).alloc (Nat.le_refl _) (.cells (u8s [k0, k1, k2, k3, k4, k5, k6, k7]).toArray 47)).alloc (by simp) (.cells zero11.toArray 54)).alloc (by simp; omega) (.cells (byts zeros29).toArray 51)
  have HR0 := Lib.hid R0'; have HR1 := Lib.hid R1'; have HR2 := Lib.hid R2; have HRB := Lib.hid RB
  clear R0 R1 R2 R0' R1' RB
  go_enter Tryz.func113, Tryz.ntmps113
  go_upto_region 2 with fail
  refine genD (w0 := w) w.heap.size (w.heap.size + 1) (w.heap.size + 1 + 1) _ _ _ _ _ _ HR0.out HR1.out HR2.out HRB.out ?_
  clear HR0 HR1 HR2 HRB
  intro W R0 R1 R2 RB
  have H0 := Lib.hid R0; have H1 := Lib.hid R1; have H2 := Lib.hid R2; have HB := Lib.hid RB
  have HA := Lib.hid (hA.below RB)
  clear R0 R1 R2 RB hA
  by_cases hl : bs.length < 29
  · have hE : begE [k0, k1, k2, k3, k4, k5, k6, k7] bs = false := by unfold begE; rw [if_pos hl]
    have hC : begC [k0, k1, k2, k3, k4, k5, k6, k7] bs = zero11 := by unfold begC; rw [if_pos hl]
    have HE := Lib.hid hE; have HC := Lib.hid hC; have HL := Lib.hid hl
    clear hE hC
    have G1 : Hid ((byts bs).length = Nat.min bs.length 29) := by unfold Hid; have := HL.out; simp [byts, Nat.min_def]; omega
    have G3 : Hid (0 + (byts bs).length ≤ (byts zeros29).length) := by unfold Hid; have := HL.out; simp [byts, zeros29]; omega
    have G4 : Hid (∀ v ∈ byts bs, v.oneCell' = true) := by unfold Hid; simp [byts, Value.oneCell']
    have e1 : (byts bs).length = bs.length := by simp [byts]
    have e2 : (bs.length : Int) < 29 := by omega
    have HBW : Hid (Below (w.heap.size + 1 + 1) W W) := Below.refl _ _
    go_upto_region 3 with (refine wpList_copy_splice (o := ⟨some 11, _, _, _, _, _⟩) rfl (.tmp 9) (.tmp 10) 59 59 rfl 5 Tryz.underlying59 (by kernel_rfl) (some ⟨w.heap.size + 1 + 1, 0, none⟩) A 29 29 bs.length c (by simp [Act.eval, Act.put]) (by simp [Act.eval, Act.put]) (w.heap.size + 1 + 1) 0 (byts zeros29) 51 H2.out (byts bs) G1.out (fun h => ⟨rfl, HA.out.src h⟩) G3.out G4.out (w.heap.size + 1 + 1) W HBW.out (Nat.le_refl _) ?_; intro W2 g2 b2)
    have H1' := Lib.hid (H1.out.below b2 (by omega))
    have HB' := Lib.hid (HB.out.trans (b2.mono (by omega)))
    clear g2 b2
    go_wp2_with (refine wpList_store_row rfl 54 _ _ rfl (w.heap.size + 1) zero11.toArray rfl rfl 54 _ H1'.out ?_ ?_ ?_ ?_; (rw [info54]; rfl); (rfl); (simp [zero11, pkC, flts, Value.oneCell']))
    refine bodyPost_ret (results_row_tmp rfl _ _ (w.heap.size + 1) 54 zero11.toArray (0, 0) _ rfl (H1'.out.setRow zero11) Tryz.underlying54 rfl ?_) rfl ?_
    · rw [info54]; rfl
    · exact ⟨by rw [HE.out, HC.out]; rfl, Below.setRow HB'.out (by omega) _⟩
  · have hE : begE [k0, k1, k2, k3, k4, k5, k6, k7] bs = (decE [k0, k1, k2, k3, k4, k5, k6, k7] (bs.take 29) == 0) := by unfold begE; rw [if_neg hl]
    have hC : begC [k0, k1, k2, k3, k4, k5, k6, k7] bs = decC [k0, k1, k2, k3, k4, k5, k6, k7] (bs.take 29) := by unfold begC; rw [if_neg hl]
    have HE := Lib.hid hE; have HC := Lib.hid hC; have HL := Lib.hid hl
    clear hE hC
    obtain ⟨fs, hfs⟩ : ∃ fs, fs = bs.take 29 := ⟨_, rfl⟩
    have hf29 : fs.length = 29 := by rw [hfs]; simp; omega
    have hAf : Hid (Rd W A (byts fs)) := by have := HA.out.take 29; rw [hfs]; simpa [byts, Hid] using this
    rw [← hfs] at HE HC
    have HF := Lib.hid hf29
    clear hfs hf29
    have G1 : Hid ((byts fs).length = Nat.min bs.length 29) := by unfold Hid; have := HL.out; have := HF.out; show _ = min bs.length 29; simp [byts]; omega
    have G3 : Hid (0 + (byts fs).length ≤ (byts zeros29).length) := by unfold Hid; have := HF.out; simp [byts, zeros29]; omega
    have G4 : Hid (∀ v ∈ byts fs, v.oneCell' = true) := by unfold Hid; simp [byts, Value.oneCell']
    have e1 : (byts fs).length = 29 := by rw [← HF.out]; simp [byts]
    have HBW : Hid (Below (w.heap.size + 1 + 1) W W) := Below.refl _ _
    go_upto_region 4 with (refine wpList_copy_splice (o := ⟨some 11, _, _, _, _, _⟩) rfl (.tmp 9) (.tmp 10) 59 59 rfl 5 Tryz.underlying59 (by kernel_rfl) (some ⟨w.heap.size + 1 + 1, 0, none⟩) A 29 29 bs.length c (by simp [Act.eval, Act.put]) (by simp [Act.eval, Act.put]) (w.heap.size + 1 + 1) 0 (byts zeros29) 51 H2.out (byts fs) G1.out (fun h => ⟨rfl, hAf.out.src h⟩) G3.out G4.out (w.heap.size + 1 + 1) W HBW.out (Nat.le_refl _) ?_; intro W2 g2 b2)
    have H0' := Lib.hid (H0.out.below b2 (by omega))
    have H1' := Lib.hid (H1.out.below b2 (by omega))
    have H2' : Hid (Row W2 (w.heap.size + 1 + 1) 51 (byts fs)) := by
      have h := g2.out
      have e : splice (byts zeros29) 0 (byts fs) = byts fs := by
        have hz : (byts zeros29).drop (byts fs).length = [] := by
          apply List.drop_eq_nil_of_le
          have := HF.out
          simp [byts, zeros29]; omega
        unfold splice
        rw [Nat.zero_add, hz]; simp
      rw [e] at h
      exact h
    have HB' := Lib.hid (HB.out.trans (b2.mono (by omega)))
    clear g2 b2
    have q0 := H0'.out.cellAt (j := 0) (by simp [u8s]); have q1 := H0'.out.cellAt (j := 1) (by simp [u8s]); have q2 := H0'.out.cellAt (j := 2) (by simp [u8s]); have q3 := H0'.out.cellAt (j := 3) (by simp [u8s]); have q4 := H0'.out.cellAt (j := 4) (by simp [u8s]); have q5 := H0'.out.cellAt (j := 5) (by simp [u8s]); have q6 := H0'.out.cellAt (j := 6) (by simp [u8s]); have q7 := H0'.out.cellAt (j := 7) (by simp [u8s])
    simp only [u8s, List.map_cons, List.getElem_cons_zero, List.getElem_cons_succ] at q0 q1 q2 q3 q4 q5 q6 q7
    go_wp2_with (refine wpList_load_row rfl 51 _ rfl (w.heap.size + 1 + 1) rfl 51 (byts fs).toArray (0, 0) _ H2'.out Tryz.underlying51 rfl ?_ ?_; (rw [info51]; have := HF.out; simp [byts, this]))
    refine (decode_any k0 k1 k2 k3 k4 k5 k6 k7 fs _ HF.out Hk.out).mono ?_
    rintro e W3 ⟨rfl, hb3⟩
    obtain ⟨dc, hdc⟩ : ∃ dc, dc = decC [k0, k1, k2, k3, k4, k5, k6, k7] fs := ⟨_, rfl⟩
    obtain ⟨de, hde⟩ : ∃ de, de = decE [k0, k1, k2, k3, k4, k5, k6, k7] fs := ⟨_, rfl⟩
    have D11 : Hid (dc.length = 11) := by unfold Hid; rw [hdc]; exact decC_length _ _
    have D1 : Hid (∀ v ∈ dc, v.oneCell' = true) := by unfold Hid; rw [hdc]; exact decC_one _ _
    rw [← hdc, ← hde]
    rw [← hdc] at HC; rw [← hde] at HE
    have s1 := H2'.out.lt
    have s2 := hb3.size
    have N0 : Hid (Row (W3.alloc (.cells zero11.toArray 54)) W3.heap.size 54 zero11) := Row.new _ _ _
    have N1 : Hid (Row ((W3.alloc (.cells zero11.toArray 54)).setRow W3.heap.size dc.toArray) W3.heap.size 54 dc) := N0.out.setRow dc
    have N2 : Hid (Row ((W3.alloc (.cells zero11.toArray 54)).setRow W3.heap.size dc.toArray) (w.heap.size + 1) 54 zero11) := ((H1'.out.old hb3).alloc _).farRow (by omega) _
    have NB : Hid (Below w.heap.size w ((W3.alloc (.cells zero11.toArray 54)).setRow W3.heap.size dc.toArray)) := Below.setRow ((HB'.out.trans (hb3.mono HB'.out.size)).alloc (by omega) _) (by omega) _
    clear hdc hde hb3 q0 q1 q2 q3 q4 q5 q6 q7 s1 s2
    go_wp2_with (first
      | (refine wpList_store_row rfl 54 _ _ rfl W3.heap.size dc.toArray rfl rfl 54 _ N0.out ?_ ?_ ?_ ?_; (rw [info54]; simp [D11.out]); (simp [D11.out, zero11, pkC, flts]); (simpa using D1.out))
      | (refine wpList_load_row rfl 54 _ rfl W3.heap.size rfl 54 dc.toArray (0, 0) _ N1.out Tryz.underlying54 rfl ?_ ?_; (rw [info54]; simp [D11.out]))
      | (refine wpList_store_row rfl 54 _ _ rfl (w.heap.size + 1) dc.toArray rfl rfl 54 _ N2.out ?_ ?_ ?_ ?_; (rw [info54]; simp [D11.out]); (simp [D11.out, zero11, pkC, flts]); (simpa using D1.out)))
    refine bodyPost_ret (results_row_tmp rfl _ _ (w.heap.size + 1) 54 dc.toArray (0, 0) _ rfl (N2.out.setRow dc) Tryz.underlying54 rfl ?_) rfl ?_
    · rw [info54]; simp [D11.out]
    · exact ⟨by rw [HE.out, HC.out]; rfl, Below.setRow NB.out (by omega) _⟩
end Go.Proofs.YtjgofnbfpoephaaGreatDoor

/- Contracts: four samples out of their transform. -/
namespace Go.Proofs.YtjgofnbfpoephaaGreatDoor
set_option linter.all false
open Go.RowKit Go.Fl
set_option linter.unusedVariables false
set_option linter.unusedSimpArgs false

/-- the sum of the first k elements of the transform of a, each turned for the sample n -/
def unP (a : List Int) (n : Nat) : Nat → Int × Int
  | 0 => (0, 0)
  | k + 1 => ((unP a n k).1 + ((fourP a k 4).1 * powR (3 * k * n) - (fourP a k 4).2 * powI (3 * k * n)), (unP a n k).2 + ((fourP a k 4).1 * powI (3 * k * n) + (fourP a k 4).2 * powR (3 * k * n)))
theorem unP_bd (a : List Int) (n k : Nat) (ha : ∀ j, (a.getD j 0).natAbs ≤ 16384) : (unP a n k).1.natAbs ≤ 131072 * k ∧ (unP a n k).2.natAbs ≤ 131072 * k := by
  induction k with
  | zero => simp [unP]
  | succ k ih =>
    have hb := fourP_bd a k 4 ha
    have h1 := mul_small (M := 65536) (by omega) (p := powR (3 * k * n)) (powR_or _) (x := (fourP a k 4).1)
    have h2 := mul_small (M := 65536) (by omega) (p := powI (3 * k * n)) (powI_or _) (x := (fourP a k 4).2)
    have h3 := mul_small (M := 65536) (by omega) (p := powI (3 * k * n)) (powI_or _) (x := (fourP a k 4).1)
    have h4 := mul_small (M := 65536) (by omega) (p := powR (3 * k * n)) (powR_or _) (x := (fourP a k 4).2)
    simp only [unP]
    omega
theorem unP_all (a : List Int) (n : Nat) (hn : n < 4) : (unP a n 4).1 = 4 * a.getD n 0 := by
  rcases (show n = 0 ∨ n = 1 ∨ n = 2 ∨ n = 3 by omega) with rfl | rfl | rfl | rfl
  all_goals
    simp [unP, fourP, powR, powI]
    omega

theorem index_panel (r0 i0 r1 i1 r2 i2 r3 i3 : Nat) (k r i : Nat) (hk : k < 4) (hx : [(r0, i0), (r1, i1), (r2, i2), (r3, i3)][k]? = some (r, i)) (w : World) :
    (Instr.index 147 (.agg #[.complex .f32 r0 i0, .complex .f32 r1 i1, .complex .f32 r2 i2, .complex .f32 r3 i3]) (.int .i64 (k : Int))).run Tryz.prog w = .ok (.complex .f32 r i) w := by
  rcases (show k = 0 ∨ k = 1 ∨ k = 2 ∨ k = 3 by omega) with rfl | rfl | rfl | rfl
  all_goals (simp at hx; obtain ⟨rfl, rfl⟩ := hx; kernel_rfl)

theorem unfour_run (a : List Int) (n k r i sr si z : Nat) (hz : z = 3 * k * n) (ha : ∀ j, (a.getD j 0).natAbs ≤ 16384) (hk : k < 4) (hr : S r (fourP a k 4).1) (hi : S i (fourP a k 4).2) (h1 : S sr (unP a n k).1) (h2 : S si (unP a n k).2) :
    ∃ r1 i1 r2 i2, (∀ w, (binOp .mul 146 (.complex .f32 r i) (.complex .f32 (pb (powR z)) (pb (powI z)))).run Tryz.prog w = .ok (.complex .f32 r1 i1) w) ∧
      (∀ w, (binOp .add 146 (.complex .f32 sr si) (.complex .f32 r1 i1)).run Tryz.prog w = .ok (.complex .f32 r2 i2) w) ∧ S r2 (unP a n (k + 1)).1 ∧ S i2 (unP a n (k + 1)).2 := by
  subst hz
  have p1 := powR_or (3 * k * n)
  have p2 := powI_or (3 * k * n)
  have hb := fourP_bd a k 4 ha
  have b1 := mul_small (M := 65536) (by omega) p1 (x := (fourP a k 4).1)
  have b2 := mul_small (M := 65536) (by omega) p2 (x := (fourP a k 4).2)
  have b3 := mul_small (M := 65536) (by omega) p2 (x := (fourP a k 4).1)
  have b4 := mul_small (M := 65536) (by omega) p1 (x := (fourP a k 4).2)
  obtain ⟨r1, i1, s1, s2, hm⟩ := cmul (P := Tryz.prog) 146 hr hi (pb_spec _ p1) (pb_spec _ p2) (by omega) (by omega) (by omega) (by omega)
  have bd := unP_bd a n (k + 1) ha
  obtain ⟨r2, i2, t1, t2, hs⟩ := cadd (P := Tryz.prog) 146 h1 h2 s1 s2 (by have := bd.1; simp only [unP] at this; omega) (by have := bd.2; simp only [unP] at this; omega)
  exact ⟨r1, i1, r2, i2, hm, hs, t1, t2⟩

/-- done as far as n: the others are 0 -/
def UnQ (a : List Int) (n : Nat) (ys : List Nat) : Prop := ys.length = 4 ∧ ∀ j (h : j < ys.length), S ys[j] (if j < n then a.getD j 0 else 0)
theorem UnQ.start (a : List Int) : UnQ a 0 [0, 0, 0, 0] := by
  refine ⟨rfl, fun j h => ?_⟩
  have h4 : j < 4 := h
  have : [0, 0, 0, 0][j] = 0 := by
    rcases (show j = 0 ∨ j = 1 ∨ j = 2 ∨ j = 3 by omega) with rfl | rfl | rfl | rfl <;> rfl
  rw [this]; simpa using S.zero
theorem UnQ.step {a : List Int} {n : Nat} {ys : List Nat} (h : UnQ a n ys) {y : Nat} (hy : S y (a.getD n 0)) : UnQ a (n + 1) (ys.set n y) := by
  refine ⟨by simpa using h.1, fun j hj => ?_⟩
  rw [List.getElem_set]
  by_cases hjn : n = j
  · subst hjn; simpa using hy
  · rw [if_neg hjn]
    have e : (j < n + 1) = (j < n) := by apply propext; omega
    simp only [e]
    exact h.2 j (by simpa using hj)
theorem flts_set (ys : List Nat) (n y : Nat) : (flts ys).set n (.float .f32 y) = flts (ys.set n y) := by simp [flts, List.map_set]

def cEq : Value → Value → Bool
  | .complex _ a b, .complex _ c d => (FloatKind.f32.format.order a c == some .eq) && (FloatKind.f32.format.order b d == some .eq)
  | _, _ => false
theorem isAgg146 (w : World) : (isAgg 146).run Tryz.prog w = .ok false w := by kernel_rfl
theorem info146 : (Tryz.prog.info? 146).map (fun i => (i.zero, i.size, i.bytes)) = some (some (.complex .f32 0 0), 1, 8) := by kernel_rfl
theorem all2_cEq : ∀ (ps qs : List (Nat × Nat)), ps.length = qs.length → (∀ j (h : j < ps.length) (h2 : j < qs.length), (∃ n m, S ps[j].1 n ∧ S qs[j].1 n ∧ S ps[j].2 m ∧ S qs[j].2 m)) → all2 cEq (cxs ps) (cxs qs) = true
  | [], [], _, _ => rfl
  | p :: ps, q :: qs, hl, h => by
    have ih := all2_cEq ps qs (by simpa using hl) (fun j h1 h2 => h (j + 1) (by simpa using h1) (by simpa using h2))
    obtain ⟨n, m, h1, h2, h3, h4⟩ := h 0 (by simp) (by simp)
    simp only [List.getElem_cons_zero] at h1 h2 h3 h4
    simp only [cxs, List.map_cons, all2, cEq] at ih ⊢
    rw [ih]
    have e1 : (FloatKind.f32.format.order p.1 q.1 == some .eq) = true := (order_eq_iff h1 h2).trans (by simp)
    have e2 : (FloatKind.f32.format.order p.2 q.2 == some .eq) = true := (order_eq_iff h3 h4).trans (by simp)
    rw [e1, e2]; rfl
theorem cxs_getD (ps : List (Nat × Nat)) (i : Nat) (h : i < (cxs ps).length) : (cxs ps).getD i undef = .complex .f32 (ps.getD i (0, 0)).1 (ps.getD i (0, 0)).2 := by
  have h2 : i < ps.length := by simpa [cxs] using h
  simp [cxs, h2]
theorem neqCx (ps qs : List (Nat × Nat)) (hp : ps.length = 4) (hq : qs.length = 4) (h : all2 cEq (cxs ps) (cxs qs) = true) (w : World) :
    (binOp .neq 147 (.agg (cxs ps).toArray) (.agg (cxs qs).toArray)).run Tryz.prog w = .ok (.bool false) w := by
  obtain ⟨i, hi, _⟩ := info_parts info146
  have hE : (Op.equalIn (9998 + 2) 147 (.agg (cxs ps).toArray) (.agg (cxs qs).toArray)).run Tryz.prog w = .ok true w := by
    rw [run_eqArray w 9999 147 146 4 i cEq (cxs ps) (cxs qs) Tryz.underlying147 hi (by kernel_rfl) (part_scalar w _ isAgg146) ?_ (by simpa [cxs] using hp) (by simpa [cxs] using hq), h]
    intro j hj
    have hj2 : j < (cxs qs).length := by simp [cxs] at hj ⊢; omega
    rw [cxs_getD ps j hj, cxs_getD qs j hj2, run_equalIn_complex w 9998 _ .f32 .f32 _ _ _ _ Tryz.underlying146]
    rfl
  have h2 : (Op.equal 147 (.agg (cxs ps).toArray) (.agg (cxs qs).toArray)).run Tryz.prog w = .ok true w := hE
  simp only [binOp]
  simp [h2]

theorem quarter_run (x y : Nat) (h : Ieee.single.div x b4 = some y) (w : World) : (binOp .quo 37 (.float .f32 x) (.float .f32 1082130432)).run Tryz.prog w = .ok (.float .f32 y) w :=
  run_float_arith w .quo _ .f32 _ _ _ h
theorem sampsI_ok {ys : List Nat} {a : List Int} (hl : ys.length ≤ 4096) (h : ∀ j (hj : j < ys.length), S ys[j] (a.getD j 0)) (ha : ∀ j, (a.getD j 0).natAbs ≤ 16384) : sampsI ys = 0 := by
  unfold sampsI
  rw [if_neg (by omega)]
  refine firstI_zero ?_
  intro z hz
  simp only [List.mem_map] at hz
  obtain ⟨y, hy, rfl⟩ := hz
  obtain ⟨j, hj, rfl⟩ := List.getElem_of_mem hy
  unfold sampI gradeB
  rw [fin_of (h j hj), stp_of (h j hj) (ha j)]; rfl
end Go.Proofs.YtjgofnbfpoephaaGreatDoor
