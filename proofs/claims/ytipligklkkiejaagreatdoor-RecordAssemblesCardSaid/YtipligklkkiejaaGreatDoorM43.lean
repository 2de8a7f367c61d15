import Derived.Test.YtipligklkkiejaaGreatDoorM33
import Derived.Test.YtipligklkkiejaaGreatDoorM09
import Derived.OpenShut
/- Kit of the cards: a slice of packets that can be read. -/
namespace Go.Proofs.YtipligklkkiejaaGreatDoor
set_option linter.all false
open Go.RowKit Go.ChangeShapes Go.WideShapes Go.ChangeAt Go.Lib
set_option linter.unusedVariables false

theorem trod_f32 {H : Type} {enc : TypeId × Value → H} {P : Program} {W : World} {b0 : Nat} {sp : Nat → Bool} {held : Bool} {fuel : Nat} {e : TypeId} {c : Value} {x : DataW H × List MemPlace} (he : P.underlying e = some (.float .f32))
    (h : DataW.trod enc P W b0 sp held fuel e [c] = some x) : ∃ n, c = .float .f32 n := by
  cases fuel with
  | zero => simp [DataW.trod] at h
  | succ n =>
    simp only [DataW.trod, he] at h
    cases c <;> simp_all
set_option maxRecDepth 100000 in
theorem elem_pk {H : Type} {enc : TypeId × Value → H} {W : World} {b0 : Nat} {sp : Nat → Bool} {held : Bool} {fuel : Nat} {cs : List Value} {x : DataW H × List MemPlace} (hl : cs.length = 11)
    (h : DataW.trod enc Tryz.prog W b0 sp held fuel 27 cs = some x) : ∃ p : PkT, cs = pkV p ∧ p.2.2.2.length = 8 := by
  obtain ⟨xs, n, _, rfl, _, hxl, hf⟩ := DataW.trod_struct Tryz.underlying27 h
  have hget : ∀ i, i < 4 → ∃ y, xs[i]? = some y := fun i hi => ⟨_, List.getElem?_eq_getElem (by rw [hxl]; exact hi)⟩
  match cs, hl with
  | [c0, c1, c2, c3, c4, c5, c6, c7, c8, c9, c10], _ =>
    obtain ⟨y0, e0⟩ := hget 0 (by decide)
    obtain ⟨y1, e1⟩ := hget 1 (by decide)
    obtain ⟨y2, e2⟩ := hget 2 (by decide)
    obtain ⟨y3, e3⟩ := hget 3 (by decide)
    have g0 : DataW.trod enc Tryz.prog W b0 sp held n 3 ((([c0, c1, c2, c3, c4, c5, c6, c7, c8, c9, c10] : List Value).drop 0).take (Tryz.prog.cellsOf 3)) = xs[0]? := hf 0 _ rfl
    have g1 : DataW.trod enc Tryz.prog W b0 sp held n 3 ((([c0, c1, c2, c3, c4, c5, c6, c7, c8, c9, c10] : List Value).drop 1).take (Tryz.prog.cellsOf 3)) = xs[1]? := hf 1 _ rfl
    have g2 : DataW.trod enc Tryz.prog W b0 sp held n 3 ((([c0, c1, c2, c3, c4, c5, c6, c7, c8, c9, c10] : List Value).drop 2).take (Tryz.prog.cellsOf 3)) = xs[2]? := hf 2 _ rfl
    have g3 : DataW.trod enc Tryz.prog W b0 sp held n 25 ((([c0, c1, c2, c3, c4, c5, c6, c7, c8, c9, c10] : List Value).drop 3).take (Tryz.prog.cellsOf 25)) = xs[3]? := hf 3 _ rfl
    rw [e0, show Tryz.prog.cellsOf 3 = 1 by kernel_rfl] at g0
    rw [e1, show Tryz.prog.cellsOf 3 = 1 by kernel_rfl] at g1
    rw [e2, show Tryz.prog.cellsOf 3 = 1 by kernel_rfl] at g2
    rw [e3, show Tryz.prog.cellsOf 25 = 8 by kernel_rfl] at g3
    obtain ⟨st, h0, _⟩ := DataW.trod_int Tryz.underlying3 g0
    obtain ⟨ct, h1, _⟩ := DataW.trod_int Tryz.underlying3 g1
    obtain ⟨ln, h2, _⟩ := DataW.trod_int Tryz.underlying3 g2
    obtain ⟨zs, m, _, _, _, hzl, hz⟩ := DataW.trod_array Tryz.underlying25 g3
    have k0 : DataW.trod enc Tryz.prog W b0 sp held m 24 ((([c3, c4, c5, c6, c7, c8, c9, c10] : List Value).drop (0 * Tryz.prog.cellsOf 24)).take (Tryz.prog.cellsOf 24)) = zs[0]? := hz 0 (by decide)
    have k1 : DataW.trod enc Tryz.prog W b0 sp held m 24 ((([c3, c4, c5, c6, c7, c8, c9, c10] : List Value).drop (1 * Tryz.prog.cellsOf 24)).take (Tryz.prog.cellsOf 24)) = zs[1]? := hz 1 (by decide)
    have k2 : DataW.trod enc Tryz.prog W b0 sp held m 24 ((([c3, c4, c5, c6, c7, c8, c9, c10] : List Value).drop (2 * Tryz.prog.cellsOf 24)).take (Tryz.prog.cellsOf 24)) = zs[2]? := hz 2 (by decide)
    have k3 : DataW.trod enc Tryz.prog W b0 sp held m 24 ((([c3, c4, c5, c6, c7, c8, c9, c10] : List Value).drop (3 * Tryz.prog.cellsOf 24)).take (Tryz.prog.cellsOf 24)) = zs[3]? := hz 3 (by decide)
    have k4 : DataW.trod enc Tryz.prog W b0 sp held m 24 ((([c3, c4, c5, c6, c7, c8, c9, c10] : List Value).drop (4 * Tryz.prog.cellsOf 24)).take (Tryz.prog.cellsOf 24)) = zs[4]? := hz 4 (by decide)
    have k5 : DataW.trod enc Tryz.prog W b0 sp held m 24 ((([c3, c4, c5, c6, c7, c8, c9, c10] : List Value).drop (5 * Tryz.prog.cellsOf 24)).take (Tryz.prog.cellsOf 24)) = zs[5]? := hz 5 (by decide)
    have k6 : DataW.trod enc Tryz.prog W b0 sp held m 24 ((([c3, c4, c5, c6, c7, c8, c9, c10] : List Value).drop (6 * Tryz.prog.cellsOf 24)).take (Tryz.prog.cellsOf 24)) = zs[6]? := hz 6 (by decide)
    have k7 : DataW.trod enc Tryz.prog W b0 sp held m 24 ((([c3, c4, c5, c6, c7, c8, c9, c10] : List Value).drop (7 * Tryz.prog.cellsOf 24)).take (Tryz.prog.cellsOf 24)) = zs[7]? := hz 7 (by decide)
    have hgz : ∀ i, i < 8 → ∃ y, zs[i]? = some y := fun i hi => ⟨_, List.getElem?_eq_getElem (by rw [hzl]; exact hi)⟩
    obtain ⟨z0, a0⟩ := hgz 0 (by decide)
    obtain ⟨z1, a1⟩ := hgz 1 (by decide)
    obtain ⟨z2, a2⟩ := hgz 2 (by decide)
    obtain ⟨z3, a3⟩ := hgz 3 (by decide)
    obtain ⟨z4, a4⟩ := hgz 4 (by decide)
    obtain ⟨z5, a5⟩ := hgz 5 (by decide)
    obtain ⟨z6, a6⟩ := hgz 6 (by decide)
    obtain ⟨z7, a7⟩ := hgz 7 (by decide)
    rw [a0, show Tryz.prog.cellsOf 24 = 1 by kernel_rfl] at k0
    rw [a1, show Tryz.prog.cellsOf 24 = 1 by kernel_rfl] at k1
    rw [a2, show Tryz.prog.cellsOf 24 = 1 by kernel_rfl] at k2
    rw [a3, show Tryz.prog.cellsOf 24 = 1 by kernel_rfl] at k3
    rw [a4, show Tryz.prog.cellsOf 24 = 1 by kernel_rfl] at k4
    rw [a5, show Tryz.prog.cellsOf 24 = 1 by kernel_rfl] at k5
    rw [a6, show Tryz.prog.cellsOf 24 = 1 by kernel_rfl] at k6
    rw [a7, show Tryz.prog.cellsOf 24 = 1 by kernel_rfl] at k7
    obtain ⟨x0, rfl⟩ := trod_f32 Tryz.underlying24 (c := c3) k0
    obtain ⟨x1, rfl⟩ := trod_f32 Tryz.underlying24 (c := c4) k1
    obtain ⟨x2, rfl⟩ := trod_f32 Tryz.underlying24 (c := c5) k2
    obtain ⟨x3, rfl⟩ := trod_f32 Tryz.underlying24 (c := c6) k3
    obtain ⟨x4, rfl⟩ := trod_f32 Tryz.underlying24 (c := c7) k4
    obtain ⟨x5, rfl⟩ := trod_f32 Tryz.underlying24 (c := c8) k5
    obtain ⟨x6, rfl⟩ := trod_f32 Tryz.underlying24 (c := c9) k6
    obtain ⟨x7, rfl⟩ := trod_f32 Tryz.underlying24 (c := c10) k7
    have h0' : [c0] = [Value.int .i64 st] := h0
    have h1' : [c1] = [Value.int .i64 ct] := h1
    have h2' : [c2] = [Value.int .i64 ln] := h2
    cases h0'; cases h1'; cases h2'
    exact ⟨(st, ct, ln, [x0, x1, x2, x3, x4, x5, x6, x7]), rfl, rfl⟩
set_option maxRecDepth 100000 in
theorem open_pks {H : Type} {enc : TypeId × Value → H} {W : World} {b0 : Nat} {r : Reach} {sp : Nat → Bool} {held : Bool} {v : Value} {d : DataW H} {ps : List MemPlace}
    (hok : Value.okWide Tryz.prog W r b0 51 v) (h : DataW.Trod enc Tryz.prog W 0 sp held 51 v d ps) : ∃ A c l, v = .slice A l.length c ∧ Rd W A (pksC l) ∧ pks8 l ∧ l.length ≤ c ∧ (A = none → c = 0) ∧ l.length ≤ maxLen := by
  obtain ⟨fuel, h⟩ := h
  rcases ok_slice Tryz.underlying51 hok with rfl | ⟨b, off, len, cap, rfl, hlc⟩
  · exact ⟨none, 0, ([] : List PkT), rfl, (fun j v h => by simp [pksC] at h), (show pks8 [] from fun p hp => by cases hp), Nat.le_refl _, (fun _ => rfl), Nat.zero_le _⟩
  rcases Deep.open_slice Tryz.underlying51 h with ⟨h0, _⟩ | ⟨a, len', cap', m, n, D, Pl, hcs, _, hl, hm, hmm, _, hall⟩
  · cases h0
  · have hcs' : [Value.slice (some ⟨b, off, none⟩) len cap] = [.slice (some a) len' cap'] := hcs
    cases hcs'
    have hle : len ≤ m := by rw [hmm]; split <;> omega
    have each : ∀ i, i < len → ∃ p : PkT, p.2.2.2.length = 8 ∧ ∀ j v, (pkV p)[j]? = some v → W.cell? ⟨b, off + i * 11 + j, none⟩ = some v := fun i hi => by
      obtain ⟨cs', h1, h2⟩ := hall i (by omega)
      rw [show Tryz.prog.cellsOf 27 = 11 by kernel_rfl] at h1
      obtain ⟨_, hlen, hcell⟩ := World.cells?_some h1
      obtain ⟨p, rfl, h8⟩ := elem_pk hlen h2
      refine ⟨p, h8, fun j v hv => ?_⟩
      have hj : j < 11 := by rw [← hlen]; exact (List.getElem?_eq_some_iff.1 hv).1
      have h3 := hcell j hj
      rw [hv, Deep.add_add] at h3
      rw [← h3, Nat.add_assoc]
      by_cases h0 : i * 11 + j = 0
      · rw [h0]; simp [Addr.add]
      · have h1 : ¬ (i * 11 = 0 ∧ j = 0) := by omega
        simp [Addr.add, h1]
    obtain ⟨f, hf⟩ := Deep.choose_lt each
    have h8 : pks8 ((List.range len).map f) := fun p hp => by
      obtain ⟨i, hi, rfl⟩ := List.mem_map.1 hp
      exact (hf i (by simpa using hi)).1
    refine ⟨some ⟨b, off, none⟩, cap, (List.range len).map f, by simp, fun j u hj => ?_, h8, by simpa using hl, (fun h => by cases h), by simp; omega⟩
    have hjl : j < ((List.range len).map f).length * 11 := by
      have h1 := (List.getElem?_eq_some_iff.1 hj).1
      have h2 := flat_length pkV 11 ((List.range len).map f) (fun p hp => pkV_length (h8 p hp))
      unfold pksC at h1; omega
    have hk : j / 11 < ((List.range len).map f).length := by omega
    have hg := flat_get pkV 11 ((List.range len).map f) (fun p hp => pkV_length (h8 p hp)) (j / 11) hk (j % 11) (Nat.mod_lt _ (by decide))
    rw [show j / 11 * 11 + j % 11 = j by omega] at hg
    have hj2 : (pkV (f (j / 11)))[j % 11]? = some u := by
      rw [← hj]; unfold pksC; rw [hg]; simp
    have hc := (hf (j / 11) (by simpa using hk)).2 _ _ hj2
    refine ⟨b, off, rfl, ?_⟩
    rw [← hc, show off + j / 11 * 11 + j % 11 = off + j by omega]
end Go.Proofs.YtipligklkkiejaaGreatDoor
