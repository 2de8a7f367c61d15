import Derived.Test.YtaknlhepgeiekaaGreatDoorM49
import Derived.OpenShut
namespace Go.Proofs.YtaknlhepgeiekaaGreatDoor
set_option linter.all false
open Go.RowKit Go.ChangeShapes Go.WideShapes Go.ChangeAt Go.Lib
set_option maxRecDepth 100000
set_option maxHeartbeats 1000000
theorem elem_ga {H : Type} {enc : TypeId × Value → H} {W : World} {b0 : Nat} {sp : Nat → Bool} {held : Bool} {fuel : Nat} {cs : List Value} {x : DataW H × List MemPlace} (hl : cs.length = 2)
 (h : DataW.trod enc Tryz.prog W b0 sp held fuel 23 cs = some x) : ∃ a b : Int, cs = [.int .i64 a, .int .i64 b] := by
 obtain ⟨xs, n, _, rfl, _, hxl, hf⟩ := DataW.trod_struct Tryz.underlying23 h
 have hget : ∀ i, i < 2 → ∃ y, xs[i]? = some y := fun i hi => ⟨_, List.getElem?_eq_getElem (by rw [hxl]; exact hi)⟩
 match cs, hl with
 | [c0, c1], _ =>
   obtain ⟨y0, e0⟩ := hget 0 (by decide)
   obtain ⟨y1, e1⟩ := hget 1 (by decide)
   have g0 : DataW.trod enc Tryz.prog W b0 sp held n 3 ((([c0, c1] : List Value).drop 0).take (Tryz.prog.cellsOf 3)) = xs[0]? := hf 0 _ rfl
   have g1 : DataW.trod enc Tryz.prog W b0 sp held n 3 ((([c0, c1] : List Value).drop 1).take (Tryz.prog.cellsOf 3)) = xs[1]? := hf 1 _ rfl
   rw [e0, show Tryz.prog.cellsOf 3 = 1 by kernel_rfl] at g0
   rw [e1, show Tryz.prog.cellsOf 3 = 1 by kernel_rfl] at g1
   obtain ⟨a, h0, _⟩ := DataW.trod_int Tryz.underlying3 g0
   obtain ⟨b, h1, _⟩ := DataW.trod_int Tryz.underlying3 g1
   have h0' : [c0] = [Value.int .i64 a] := h0
   have h1' : [c1] = [Value.int .i64 b] := h1
   cases h0'; cases h1'
   exact ⟨a, b, rfl⟩
theorem elem_sg {H : Type} {enc : TypeId × Value → H} {W : World} {b0 : Nat} {sp : Nat → Bool} {held : Bool} {fuel : Nat} {cs : List Value} {x : DataW H × List MemPlace} (hl : cs.length = 6)
 (h : DataW.trod enc Tryz.prog W b0 sp held fuel 25 cs = some x) : ∃ s : Sg, cs = s.L := by
 obtain ⟨xs, n, _, rfl, _, hxl, hf⟩ := DataW.trod_struct Tryz.underlying25 h
 have hget : ∀ i, i < 3 → ∃ y, xs[i]? = some y := fun i hi => ⟨_, List.getElem?_eq_getElem (by rw [hxl]; exact hi)⟩
 match cs, hl with
 | [c0, c1, c2, c3, c4, c5], _ =>
   obtain ⟨y0, e0⟩ := hget 0 (by decide)
   obtain ⟨y1, e1⟩ := hget 1 (by decide)
   obtain ⟨y2, e2⟩ := hget 2 (by decide)
   have g0 : DataW.trod enc Tryz.prog W b0 sp held n 23 ((([c0, c1, c2, c3, c4, c5] : List Value).drop 0).take (Tryz.prog.cellsOf 23)) = xs[0]? := hf 0 _ rfl
   have g1 : DataW.trod enc Tryz.prog W b0 sp held n 23 ((([c0, c1, c2, c3, c4, c5] : List Value).drop 2).take (Tryz.prog.cellsOf 23)) = xs[1]? := hf 1 _ rfl
   have g2 : DataW.trod enc Tryz.prog W b0 sp held n 23 ((([c0, c1, c2, c3, c4, c5] : List Value).drop 4).take (Tryz.prog.cellsOf 23)) = xs[2]? := hf 2 _ rfl
   rw [e0, show Tryz.prog.cellsOf 23 = 2 by kernel_rfl] at g0
   rw [e1, show Tryz.prog.cellsOf 23 = 2 by kernel_rfl] at g1
   rw [e2, show Tryz.prog.cellsOf 23 = 2 by kernel_rfl] at g2
   obtain ⟨a, b, h0⟩ := elem_ga (cs := [c0, c1]) rfl g0
   obtain ⟨c, d, h1⟩ := elem_ga (cs := [c2, c3]) rfl g1
   obtain ⟨x, y, h2⟩ := elem_ga (cs := [c4, c5]) rfl g2
   cases h0; cases h1; cases h2
   exact ⟨⟨a, b, c, d, x, y⟩, rfl⟩
instance : Inhabited Sg := ⟨⟨0, 0, 0, 0, 0, 0⟩⟩
theorem open_sgs {H : Type} {enc : TypeId × Value → H} {W : World} {b0 : Nat} {r : Reach} {sp : Nat → Bool} {held : Bool} {v : Value} {d : DataW H} {ps : List MemPlace}
 (hok : Value.okWide Tryz.prog W r b0 42 v) (h : DataW.Trod enc Tryz.prog W 0 sp held 42 v d ps) : ∃ A c l, v = .slice A l.length c ∧ Rd W A (sgC l) ∧ l.length ≤ c ∧ (A = none → c = 0) ∧ l.length ≤ maxLen := by
 obtain ⟨fuel, h⟩ := h
 rcases ok_slice Tryz.underlying42 hok with rfl | ⟨b, off, len, cap, rfl, hlc⟩
 · exact ⟨none, 0, ([] : List Sg), rfl, (fun j v h => by simp [sgC] at h), Nat.le_refl _, (fun _ => rfl), Nat.zero_le _⟩
 rcases Deep.open_slice Tryz.underlying42 h with ⟨h0, _⟩ | ⟨a, len', cap', m, n, D, Pl, hcs, _, hl, hm, hmm, _, hall⟩
 · cases h0
 · have hcs' : [Value.slice (some ⟨b, off, none⟩) len cap] = [.slice (some a) len' cap'] := hcs
   cases hcs'
   have hle : len ≤ m := by rw [hmm]; split <;> omega
   have each : ∀ i, i < len → ∃ p : Sg, ∀ j v, (p.L)[j]? = some v → W.cell? ⟨b, off + i * 6 + j, none⟩ = some v := fun i hi => by
    obtain ⟨cs', h1, h2⟩ := hall i (by omega)
    rw [show Tryz.prog.cellsOf 25 = 6 by kernel_rfl] at h1
    obtain ⟨_, hlen, hcell⟩ := World.cells?_some h1
    obtain ⟨p, rfl⟩ := elem_sg hlen h2
    refine ⟨p, fun j v hv => ?_⟩
    have hj : j < 6 := by rw [← hlen]; exact (List.getElem?_eq_some_iff.1 hv).1
    have h3 := hcell j hj
    rw [hv, Deep.add_add] at h3
    rw [← h3, Nat.add_assoc]
    by_cases h0 : i * 6 + j = 0
    · rw [h0]; simp [Addr.add]
    · have h1 : ¬ (i * 6 = 0 ∧ j = 0) := by omega
      simp [Addr.add, h1]
   obtain ⟨f, hf⟩ := Deep.choose_lt each
   refine ⟨some ⟨b, off, none⟩, cap, (List.range len).map f, by simp, fun j u hj => ?_, by simpa using hl, (fun h => by cases h), by simp; omega⟩
   have hjl : j < ((List.range len).map f).length * 6 := by
    have h1 := (List.getElem?_eq_some_iff.1 hj).1
    have h2 := flat_length Sg.L 6 ((List.range len).map f) (fun p hp => rfl)
    unfold sgC at h1; omega
   have hk : j / 6 < ((List.range len).map f).length := by omega
   have hg := flat_get Sg.L 6 ((List.range len).map f) (fun p hp => rfl) (j / 6) hk (j % 6) (Nat.mod_lt _ (by decide))
   rw [show j / 6 * 6 + j % 6 = j by omega] at hg
   have hj2 : ((f (j / 6)).L)[j % 6]? = some u := by
    rw [← hj]; unfold sgC; rw [hg]; simp
   have hc := (hf (j / 6) (by simpa using hk)) _ _ hj2
   refine ⟨b, off, rfl, ?_⟩
   rw [← hc, show off + j / 6 * 6 + j % 6 = off + j by omega]
theorem wide_slice3 {P : Program} {W : World} {r : Reach} {b0 : Nat} {t e : TypeId} {c : Value} (ht : P.underlying t = some (.slice e)) (h : Cell.okWide P W r b0 t c) : Value.okWide P W r b0 t c := by
 simp only [Value.okWide, ht]; exact h
theorem trod_one3 {H : Type} {enc : TypeId × Value → H} {P : Program} {W : World} {b0 n : Nat} {r : Reach} {sp : Nat → Bool} {held : Bool} {t e : TypeId} {c : Value} {y : DataW H × List MemPlace} (ht : P.underlying t = some (.slice e)) (hok : Value.okWide P W r b0 t c)
 (h : DataW.trod enc P W 0 sp held n t [c] = some y) : DataW.Trod enc P W 0 sp held t c y.1 y.2 := by
 rcases ok_slice ht hok with rfl | ⟨b, off, len, cap, rfl, _⟩
 · exact ⟨n, h⟩
 · exact ⟨n, h⟩
set_option maxRecDepth 100000 in
theorem open_bands {H : Type} {enc : TypeId × Value → H} {W : World} {b0 : Nat} {r : Reach} {sp : Nat → Bool} {held : Bool} {v : Value} {d : DataW H} {ps : List MemPlace}
 (hok : Value.okWide Tryz.prog W r b0 56 v) (h : DataW.Trod enc Tryz.prog W 0 sp held 56 v d ps) :
 ∃ (bd : Int) (A : Option Addr) (c : Nat) (l : List Sg), v = .agg #[.int .u16 bd, .slice A l.length c] ∧ (0 ≤ bd ∧ bd ≤ 65535) ∧ Rd W A (sgC l) ∧ (A = none → c = 0) := by
 obtain ⟨cs, rfl, hl, hc⟩ := ok_agg (ts := [54, 42]) (.inl ⟨_, Tryz.underlying56⟩) (by kernel_rfl) (by kernel_rfl) hok
 obtain ⟨c0, c1, rfl⟩ : ∃ a b, cs = [a, b] := by match cs, hl with | [a, b], _ => exact ⟨a, b, rfl⟩
 obtain ⟨fuel, h⟩ := h
 obtain ⟨zs, n, _, _, _, hzl, hf⟩ := DataW.trod_struct Tryz.underlying56 h
 obtain ⟨y1, e1⟩ : ∃ y, zs[1]? = some y := ⟨_, List.getElem?_eq_getElem (by rw [hzl]; exact (by decide : 1 < 2))⟩
 have g1 : DataW.trod enc Tryz.prog W 0 sp held n 42 ((([c0, c1] : List Value).drop 1).take (Tryz.prog.cellsOf 42)) = zs[1]? := hf 1 _ rfl
 rw [e1, show Tryz.prog.cellsOf 42 = 1 by kernel_rfl] at g1
 obtain ⟨bd, rfl, hb⟩ := cell_int Tryz.underlying54 (hc 0 _ _ rfl rfl)
 have o1 := wide_slice3 Tryz.underlying42 (hc 1 _ _ rfl rfl)
 obtain ⟨A, c, l, rfl, hR, _, hca, _⟩ := open_sgs o1 (trod_one3 Tryz.underlying42 o1 g1)
 exact ⟨bd, A, c, l, rfl, ⟨hb.1, hb.2⟩, hR, hca⟩
end Go.Proofs.YtaknlhepgeiekaaGreatDoor
