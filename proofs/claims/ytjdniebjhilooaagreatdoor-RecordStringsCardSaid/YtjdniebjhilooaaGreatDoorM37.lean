import Derived.Test.YtjdniebjhilooaaGreatDoorM36
import Derived.Deep.SlicePairs
namespace Go.Proofs.YtjdniebjhilooaaGreatDoor
set_option linter.all false
open Go.RowKit Go.ChangeShapes Go.WideShapes Go.ChangeAt Go.Lib
theorem add_plain (b off k : Nat) : (⟨b, off, none⟩ : Addr).add k = ⟨b, off + k, none⟩ := by
 cases k with
 | zero => simp [Addr.add]
 | succ k => simp [Addr.add]
theorem wide_slice {P : Program} {W : World} {r : Reach} {b0 : Nat} {t e : TypeId} {c : Value} (ht : P.underlying t = some (.slice e)) (h : Cell.okWide P W r b0 t c) : Value.okWide P W r b0 t c := by
 simp only [Value.okWide, ht]; exact h
theorem trod_one {H : Type} {enc : TypeId × Value → H} {P : Program} {W : World} {b0 n : Nat} {r : Reach} {sp : Nat → Bool} {held : Bool} {t e : TypeId} {c : Value} {y : DataW H × List MemPlace} (ht : P.underlying t = some (.slice e)) (hok : Value.okWide P W r b0 t c)
 (h : DataW.trod enc P W 0 sp held n t [c] = some y) : DataW.Trod enc P W 0 sp held t c y.1 y.2 := by
 rcases ok_slice ht hok with rfl | ⟨b, off, len, cap, rfl, _⟩
 · exact ⟨n, h⟩
 · exact ⟨n, h⟩
set_option maxRecDepth 100000 in
theorem open_marks {H : Type} {enc : TypeId × Value → H} {W : World} {b0 : Nat} {r : Reach} {sp : Nat → Bool} {held : Bool} {v : Value} {d : DataW H} {ps : List MemPlace}
 (hok : Value.okWide Tryz.prog W r b0 23 v) (h : DataW.Trod enc Tryz.prog W 0 sp held 23 v d ps) : ∃ A c l, v = .slice A l.length c ∧ Rd W A (markC l) ∧ l.length ≤ maxLen := by
 obtain ⟨fuel, h⟩ := h
 rcases ok_slice Tryz.underlying23 hok with rfl | ⟨b, off, len, cap, rfl, hlc⟩
 · exact ⟨none, 0, ([] : List (Int × ByteArray)), rfl, (fun j v h => by simp [markC] at h), Nat.zero_le _⟩
 rcases Deep.open_slice_pairs Tryz.underlying23 Tryz.underlying90 (by kernel_rfl) rfl rfl (by kernel_rfl) (by kernel_rfl) h with ⟨h0, _⟩ | ⟨a, len', cap', m, n, V0, V1, D0, D1, P0, P1, hcs, _, hl, hm, hmm, _, hall⟩
 · cases h0
 · have hcs' : [Value.slice (some ⟨b, off, none⟩) len cap] = [.slice (some a) len' cap'] := hcs
   cases hcs'
   have hle : len ≤ m := by rw [hmm]; split <;> omega
   have each : ∀ i, i < len → ∃ p : Int × ByteArray, W.cell? ⟨b, off + i * 2, none⟩ = some (.int .i64 p.1) ∧ W.cell? ⟨b, off + i * 2 + 1, none⟩ = some (.string p.2) := fun i hi => by
    obtain ⟨k0, k1, t0, t1⟩ := hall i (by omega)
    obtain ⟨x, hx, _⟩ := DataW.trod_int Tryz.underlying3 t0
    obtain ⟨s, hs, _⟩ := DataW.trod_string Tryz.underlying9 t1
    have hx' : [V0 i] = [Value.int .i64 x] := hx
    have hs' : [V1 i] = [Value.string s] := hs
    have e0 : V0 i = .int .i64 x := by injection hx'
    have e1 : V1 i = .string s := by injection hs'
    rw [e0] at k0; rw [e1] at k1
    refine ⟨(x, s), ?_, ?_⟩
    · rw [add_plain] at k0; exact k0
    · rw [add_plain] at k1; exact k1
   obtain ⟨g, hg⟩ := Deep.choose_lt each
   refine ⟨some ⟨b, off, none⟩, cap, (List.range len).map g, by simp, fun j u hj => ?_, by simp; omega⟩
   have hjl : j < len * 2 := by
    have h1 := (List.getElem?_eq_some_iff.1 hj).1
    rw [markC_length] at h1; simpa using h1
   have hk : j / 2 < ((List.range len).map g).length := by simp; omega
   obtain ⟨m0, m1⟩ := markC_get ((List.range len).map g) (j / 2) hk
   obtain ⟨c0, c1⟩ := hg (j / 2) (by omega)
   refine ⟨b, off, rfl, ?_⟩
   by_cases hp : j % 2 = 0
   · have ej : j / 2 * 2 = j := by omega
     rw [ej, hj] at m0
     have hu := Option.some.inj m0
     rw [hu, show off + j = off + j / 2 * 2 by omega, c0]; simp
   · have ej : j / 2 * 2 + 1 = j := by omega
     rw [ej, hj] at m1
     have hu := Option.some.inj m1
     rw [hu, show off + j = off + j / 2 * 2 + 1 by omega, c1]; simp
set_option maxRecDepth 100000 in
theorem open_rec {H : Type} {enc : TypeId × Value → H} {W : World} {b0 : Nat} {r : Reach} {sp : Nat → Bool} {held : Bool} {v : Value} {d : DataW H} {ps : List MemPlace}
 (hok : Value.okWide Tryz.prog W r b0 25 v) (h : DataW.Trod enc Tryz.prog W 0 sp held 25 v d ps) :
 ∃ (st sp' : Int) (A : Option Addr) (c : Nat) (xs : List Nat) (B : Option Addr) (e : Nat) (ms : List (Int × ByteArray)), v = .agg #[.int .i64 st, .int .i64 sp', .slice A xs.length c, .slice B ms.length e] ∧ Rd W A (flts xs) ∧ xs.length ≤ c ∧ (A = none → c = 0) ∧ xs.length ≤ maxLen ∧ Rd W B (markC ms) ∧ ms.length ≤ maxLen := by
 obtain ⟨cs, rfl, hl, hc⟩ := ok_agg (ts := [3, 3, 22, 23]) (.inl ⟨_, Tryz.underlying25⟩) (by kernel_rfl) (by kernel_rfl) hok
 obtain ⟨c0, c1, c2, c3, rfl⟩ : ∃ a b c d, cs = [a, b, c, d] := by match cs, hl with | [a, b, c, d], _ => exact ⟨a, b, c, d, rfl⟩
 obtain ⟨fuel, h⟩ := h
 obtain ⟨zs, n, _, _, _, hzl, hf⟩ := DataW.trod_struct Tryz.underlying25 h
 have hget : ∀ i, i < 4 → ∃ y, zs[i]? = some y := fun i hi => ⟨_, List.getElem?_eq_getElem (by rw [hzl]; exact hi)⟩
 obtain ⟨y2, e2⟩ := hget 2 (by decide)
 obtain ⟨y3, e3⟩ := hget 3 (by decide)
 have g2 : DataW.trod enc Tryz.prog W 0 sp held n 22 ((([c0, c1, c2, c3] : List Value).drop 2).take (Tryz.prog.cellsOf 22)) = zs[2]? := hf 2 _ rfl
 have g3 : DataW.trod enc Tryz.prog W 0 sp held n 23 ((([c0, c1, c2, c3] : List Value).drop 3).take (Tryz.prog.cellsOf 23)) = zs[3]? := hf 3 _ rfl
 rw [e2, show Tryz.prog.cellsOf 22 = 1 by kernel_rfl] at g2
 rw [e3, show Tryz.prog.cellsOf 23 = 1 by kernel_rfl] at g3
 obtain ⟨st, rfl, _⟩ := cell_int Tryz.underlying3 (hc 0 _ _ rfl rfl)
 obtain ⟨sp', rfl, _⟩ := cell_int Tryz.underlying3 (hc 1 _ _ rfl rfl)
 have o2 := wide_slice Tryz.underlying22 (hc 2 _ _ rfl rfl)
 have o3 := wide_slice Tryz.underlying23 (hc 3 _ _ rfl rfl)
 obtain ⟨A, c, xs, rfl, hR, hlc, hca, hm⟩ := open_flts Tryz.underlying22 Tryz.underlying56 (by kernel_rfl) o2 (trod_one Tryz.underlying22 o2 g2)
 obtain ⟨B, e, ms, rfl, hRB, hmb⟩ := open_marks o3 (trod_one Tryz.underlying23 o3 g3)
 exact ⟨st, sp', A, c, xs, B, e, ms, rfl, hR, hlc, hca, hm, hRB, hmb⟩
end Go.Proofs.YtjdniebjhilooaaGreatDoor
