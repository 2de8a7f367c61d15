import Derived.Test.YtoclnlimnjnbkaaGreatDoorM32
import Derived.Test.YtoclnlimnjnbkaaGreatDoorM33
import Derived.OpenShut
namespace Go.Proofs.YtoclnlimnjnbkaaGreatDoor
set_option linter.all false
open Go.RowKit Go.ChangeShapes Go.WideShapes Go.ChangeAt Go.Lib
theorem recordHeard_ok (haw : AwakeOk) (A : Option Addr) (xc : Nat) (Xs : List Wr) (dt : Nat) (B : Option Addr) (bc : Nat) (bys : List Int) (w : World) (hS : HdS w A Xs B bys w) (hxb : Xs.length ≤ 9223372036854775807) (hbb : bys.length ≤ 9223372036854775807) (hdt : dt < 256) (hby : ∀ b ∈ bys, -128 ≤ b ∧ b ≤ 127) : Calls Tryz.prog 5 #[.slice A Xs.length xc, .int .u8 (dt : Int), .slice B bys.length bc] w fun e w' => e = .returned (.bool true) ∧ Below w.heap.size w w' := by
  by_cases h3 : 3 < Xs.length
  · exact heard_far haw A xc Xs dt B bc bys w hS hxb hbb h3
  exact heard_walk haw A xc Xs dt B bc bys w hS hxb hbb (by omega) hdt hby
theorem u8_nat2 {n : Int} (h : IntKind.u8.has n) : ∃ m : Nat, n = (m : Int) ∧ m < 256 := by
  have h2 : 0 ≤ n ∧ n ≤ 255 := h
  exact ⟨n.toNat, by omega, by omega⟩
theorem add_slot (b off j : Nat) : (⟨b, off, none⟩ : Addr).add j = ⟨b, off + j, none⟩ := by
  by_cases h0 : j = 0
  · subst h0; simp [Addr.add]
  · simp [Addr.add, h0]
theorem open_i8s {H : Type} {enc : TypeId × Value → H} {P : Program} {W : World} {b0 : Nat} {r : Reach} {sp : Nat → Bool} {held : Bool} {t e : TypeId} {v : Value} {d : DataW H} {ps : List MemPlace} (ht : P.underlying t = some (.slice e)) (he : P.underlying e = some (.int .i8)) (hc : P.cellsOf e = 1)
    (hok : Value.okWide P W r b0 t v) (h : DataW.Trod enc P W 0 sp held t v d ps) : ∃ (A : Option Addr) (c : Nat) (l : List Int), v = .slice A l.length c ∧ Rd W A (i8s l) ∧ (∀ b ∈ l, -128 ≤ b ∧ b ≤ 127) ∧ l.length ≤ maxLen := by
  obtain ⟨fuel, h⟩ := h
  rcases ok_slice ht hok with rfl | ⟨b, off, len, cap, rfl, hlc⟩
  · exact ⟨none, 0, [], rfl, fun j v h => by simp [i8s] at h, (fun b hb => by cases hb), Nat.zero_le _⟩
  rcases open_ints ht he hc h with ⟨h0, _⟩ | ⟨a, len', cap', zs, hcs, _, hl, hm, hlen, _, hall, hwf⟩
  · cases h0
  · have hcs' : [Value.slice (some ⟨b, off, none⟩) len cap] = [.slice (some a) len' cap'] := hcs
    cases hcs'
    have hle : len ≤ zs.length := by rw [hlen]; split <;> omega
    refine ⟨some ⟨b, off, none⟩, cap, zs.take len, by simp [hle], fun j u hj => ?_, fun z hz => ?_, by simp; omega⟩
    · have hjl : j < len := by
        have := (List.getElem?_eq_some_iff.1 hj).1
        simp [i8s] at this
        omega
      have hjz : j < zs.length := by omega
      have hu : u = .int .i8 zs[j] := by
        simp only [i8s, List.getElem?_map, List.getElem?_take_of_lt hjl, List.getElem?_eq_getElem hjz, Option.map_some, Option.some.injEq] at hj
        exact hj.symm
      refine ⟨b, off, rfl, ?_⟩
      have h1 := hall j hjz
      rw [hu, show zs[j] = zs.getD j 0 by simp [List.getD, hjz], ← h1, add_slot]
    · simpa [Lit.wf, IntKind.min, IntKind.max, IntKind.signed, IntKind.bits] using hwf z (List.mem_of_mem_take hz)
theorem spot_none {W : World} {a : Addr} {v : Value} (h : W.cell? a = some v) : a = ⟨a.block, a.off, none⟩ := by
  obtain ⟨b, off, s⟩ := a
  cases s with
  | none => rfl
  | some k =>
    exfalso
    unfold World.cell? at h
    dsimp only at h
    split at h
    · simp at h
    · cases h
theorem elem_word {H : Type} {enc : TypeId × Value → H} {W : World} {b0 : Nat} {sp : Nat → Bool} {held : Bool} {fuel : Nat} {c : Value} {x : DataW H × List MemPlace}
    (h : DataW.trod enc Tryz.prog W b0 sp held fuel 48 [c] = some x) : ∃ t : Wr, c = wrC t ∧ Rd W t.1 (byts t.2.2) := by
  rcases open_ints Tryz.underlying48 Tryz.underlying5 (by kernel_rfl) h with ⟨h0, _⟩ | ⟨a, len, cap, zs, hcs, _, hl, hm, hlen, _, hall, hwf⟩
  · have h0' : [c] = [Value.slice none 0 0] := h0
    cases h0'
    exact ⟨(none, 0, []), rfl, fun j v h => by simp [byts] at h⟩
  · have hcs' : [c] = [Value.slice (some a) len cap] := hcs
    cases hcs'
    have hle : len ≤ zs.length := by rw [hlen]; split <;> omega
    refine ⟨(some a, cap, (zs.take len).map fun z => UInt8.ofNat z.toNat), by simp [wrC, hle], fun j u hj => ?_⟩
    have hjl : j < len := by
      have := (List.getElem?_eq_some_iff.1 hj).1
      simp [byts] at this
      omega
    have hjz : j < zs.length := by omega
    have hz := hwf zs[j] (List.getElem_mem _)
    have hb : 0 ≤ zs[j] ∧ zs[j] ≤ 255 := by simpa [Lit.wf, IntKind.min, IntKind.max, IntKind.signed, IntKind.bits] using hz
    have hu : u = .int .u8 zs[j] := by
      simp only [byts, List.getElem?_map, List.getElem?_take_of_lt hjl, List.getElem?_eq_getElem hjz, Option.map_some, Option.some.injEq] at hj
      rw [← hj, UInt8.toNat_ofNat']
      congr 1
      omega
    have hs : a = ⟨a.block, a.off, none⟩ := by
      have h1 := hall 0 (by omega)
      have h2 : a.add 0 = a := by simp [Addr.add]
      rw [h2] at h1
      exact spot_none h1
    refine ⟨a.block, a.off, congrArg some hs, ?_⟩
    have h1 := hall j hjz
    rw [hs, add_slot] at h1
    rw [hu, show zs[j] = zs.getD j 0 by simp [List.getD, hjz], ← h1]
set_option maxRecDepth 100000 in
theorem open_words {H : Type} {enc : TypeId × Value → H} {W : World} {b0 : Nat} {r : Reach} {sp : Nat → Bool} {held : Bool} {v : Value} {d : DataW H} {ps : List MemPlace}
    (hok : Value.okWide Tryz.prog W r b0 76 v) (h : DataW.Trod enc Tryz.prog W 0 sp held 76 v d ps) : ∃ (A : Option Addr) (c : Nat) (l : List Wr), v = .slice A l.length c ∧ Rd W A (l.map wrC) ∧ (∀ t ∈ l, Rd W t.1 (byts t.2.2)) ∧ l.length ≤ maxLen := by
  obtain ⟨fuel, h⟩ := h
  rcases ok_slice Tryz.underlying76 hok with rfl | ⟨b, off, len, cap, rfl, hlc⟩
  · exact ⟨none, 0, ([] : List Wr), rfl, (fun j v h => by simp at h), (fun p hp => by cases hp), Nat.zero_le _⟩
  rcases Deep.open_slice Tryz.underlying76 h with ⟨h0, _⟩ | ⟨a, len', cap', m, n, D, Pl, hcs, _, hl, hm, hmm, _, hall⟩
  · cases h0
  · have hcs' : [Value.slice (some ⟨b, off, none⟩) len cap] = [.slice (some a) len' cap'] := hcs
    cases hcs'
    have hle : len ≤ m := by rw [hmm]; split <;> omega
    have each : ∀ i, i < len → ∃ p : Wr, Rd W p.1 (byts p.2.2) ∧ W.cell? ⟨b, off + i, none⟩ = some (wrC p) := fun i hi => by
      obtain ⟨cs', h1, h2⟩ := hall i (by omega)
      rw [show Tryz.prog.cellsOf 48 = 1 by kernel_rfl] at h1
      obtain ⟨_, hlen, hcell⟩ := World.cells?_some h1
      match cs', hlen with
      | [c], _ =>
        obtain ⟨p, rfl, h8⟩ := elem_word h2
        refine ⟨p, h8, ?_⟩
        have h3 := hcell 0 (by decide)
        rw [Deep.add_add] at h3
        rw [Nat.mul_one, Nat.add_zero, add_slot] at h3
        exact h3
    obtain ⟨f, hf⟩ := Deep.choose_lt each
    refine ⟨some ⟨b, off, none⟩, cap, (List.range len).map f, by simp, fun j u hj => ?_, fun p hp => ?_, by simp; omega⟩
    · have hjl : j < len := by
        have h1 := (List.getElem?_eq_some_iff.1 hj).1
        simpa using h1
      rw [List.getElem?_map, List.getElem?_map, List.getElem?_range hjl] at hj
      simp only [Option.map_some, Option.some.injEq] at hj
      exact ⟨b, off, rfl, by rw [← hj]; exact (hf j hjl).2⟩
    · obtain ⟨i, hi, rfl⟩ := List.mem_map.1 hp
      exact (hf i (by simpa using hi)).1
end Go.Proofs.YtoclnlimnjnbkaaGreatDoor
