/- Kit of the cards: a slice of bytes that can be read. -/
import Derived.Test.YtjgofnbfpoephaaGreatDoorM41
namespace Go.Proofs.YtjgofnbfpoephaaGreatDoor
set_option linter.all false
open Go.RowKit Go.ChangeShapes Go.WideShapes Go.ChangeAt Go.Lib
set_option linter.unusedVariables false

theorem open_byts {H : Type} {enc : TypeId × Value → H} {P : Program} {W : World} {b0 : Nat} {r : Reach} {sp : Nat → Bool} {held : Bool} {t e : TypeId} {v : Value} {d : DataW H} {ps : List MemPlace} (ht : P.underlying t = some (.slice e)) (he : P.underlying e = some (.int .u8)) (hc : P.cellsOf e = 1)
    (hok : Value.okWide P W r b0 t v) (h : DataW.Trod enc P W 0 sp held t v d ps) : ∃ A c bs, v = .slice A bs.length c ∧ Rd W A (byts bs) ∧ bs.length ≤ c ∧ (A = none → c = 0) ∧ bs.length ≤ maxLen := by
  obtain ⟨fuel, h⟩ := h
  rcases ok_slice ht hok with rfl | ⟨b, off, len, cap, rfl, hlc⟩
  · exact ⟨none, 0, [], rfl, fun j v h => by simp [byts] at h, Nat.le_refl _, fun _ => rfl, Nat.zero_le _⟩
  rcases open_ints ht he hc h with ⟨h0, _⟩ | ⟨a, len', cap', zs, hcs, _, hl, hm, hlen, _, hall, hwf⟩
  · cases h0
  · have hcs' : [Value.slice (some ⟨b, off, none⟩) len cap] = [.slice (some a) len' cap'] := hcs
    cases hcs'
    have hle : len ≤ zs.length := by rw [hlen]; split <;> omega
    refine ⟨some ⟨b, off, none⟩, cap, (zs.take len).map fun z => UInt8.ofNat z.toNat, by simp [hle], fun j u hj => ?_, by simp; omega, (fun h => by cases h), by simp; omega⟩
    have hjl : j < len := by
      have := (List.getElem?_eq_some_iff.1 hj).1
      simp [byts] at this
      omega
    have hjz : j < zs.length := by omega
    have hz := hwf zs[j] (List.getElem_mem _)
    have hb : 0 ≤ zs[j] ∧ zs[j] ≤ 255 := by simpa [Lit.wf, IntKind.min, IntKind.max, IntKind.signed, IntKind.bits] using hz
    have hu : u = .int .u8 zs[j] := by
      simp only [byts, List.getElem?_map, List.getElem?_take_of_lt hjl, List.getElem?_eq_getElem hjz, Option.map_some, Option.some.injEq] at hj
      rw [← hj, UInt8.toNat_ofNat']
      congr 1
      omega
    refine ⟨b, off, rfl, ?_⟩
    have h1 := hall j hjz
    rw [hu, show zs[j] = zs.getD j 0 by simp [List.getD, hjz], ← h1]
    by_cases h0 : j = 0
    · subst h0; simp [Addr.add]
    · simp [Addr.add, h0]
end Go.Proofs.YtjgofnbfpoephaaGreatDoor
