import Derived.Test.YtoclnlimnjnbkaaGreatDoorM40
import Derived.Test.YtoclnlimnjnbkaaGreatDoorM33
import Derived.OpenShut
import Derived.Laws.IdiomArrays
namespace Go.Proofs.YtoclnlimnjnbkaaGreatDoor
set_option linter.all false
open Go.RowKit Go.ChangeShapes Go.WideShapes Go.ChangeAt Go.Lib
theorem recordFound_ok (haw : AwakeOk) (k0 k1 k2 k3 k4 k5 k6 k7 : Int) (A : Option Addr) (lc : Nat) (LL : List Ra) (B : Option Addr) (mc : Nat) (ot0 : List UInt8) (wh8 at8 by8 : Nat) (w : World) (haW : Aw w) (hA : Rd w A (LL.flatMap raC)) (hB : Rd w B (byts ot0)) (hlb : LL.length ≤ 9223372036854775807) (hob : ot0.length ≤ 9223372036854775807) (hLL : ∀ t ∈ LL, (-32768 ≤ t.1 ∧ t.1 ≤ 32767) ∧ (-32768 ≤ t.2.1 ∧ t.2.1 ≤ 32767) ∧ (-32768 ≤ t.2.2 ∧ t.2.2 ≤ 32767))
    (hkeys : ∀ j (h : j < 8), isByte ([k0, k1, k2, k3, k4, k5, k6, k7][j])) (hwh : wh8 < 256) (hat : at8 < 256) (hby : by8 < 256) : Calls Tryz.prog 4 #[.agg #[.int .u8 k0, .int .u8 k1, .int .u8 k2, .int .u8 k3, .int .u8 k4, .int .u8 k5, .int .u8 k6, .int .u8 k7], .slice A LL.length lc, .agg #[.slice B ot0.length mc, .int .u8 (wh8 : Int), .int .u8 (at8 : Int), .int .u8 (by8 : Int)]] w fun e w' => e = .returned (.bool true) ∧ Below w.heap.size w w' := by
  by_cases h1 : LL.length < 1
  · exact found_far1 haw k0 k1 k2 k3 k4 k5 k6 k7 A lc LL B mc ot0 wh8 at8 by8 w haW hA hB hlb hob h1
  by_cases h2 : 5 < LL.length
  · exact found_far2 haw k0 k1 k2 k3 k4 k5 k6 k7 A lc LL B mc ot0 wh8 at8 by8 w haW hA hB hlb hob h2
  by_cases h3 : 20 < ot0.length
  · exact found_far3 haw k0 k1 k2 k3 k4 k5 k6 k7 A lc LL B mc ot0 wh8 at8 by8 w haW hA hB hlb hob (by omega) (by omega) h3
  exact found_walk haw k0 k1 k2 k3 k4 k5 k6 k7 A lc LL B mc ot0 wh8 at8 by8 w haW hA hB hlb hob (by omega) (by omega) (by omega) hLL hkeys hwh hat hby
theorem byte_nat {n : Int} (h : IntKind.u8.has n) : ∃ m : Nat, n = (m : Int) ∧ m < 256 := by
  have h2 : 0 ≤ n ∧ n ≤ 255 := h
  exact ⟨n.toNat, by omega, by omega⟩
theorem cells_u8b : ∀ {cs : List Value}, (∀ v ∈ cs, ∃ n, v = .int .u8 n ∧ IntKind.u8.has n) → ∃ ks : List Int, cs = u8s ks ∧ ks.length = cs.length ∧ ∀ x ∈ ks, isByte x
  | [], _ => ⟨[], rfl, rfl, fun x hx => by cases hx⟩
  | v :: cs, h => by
    obtain ⟨ks, hk, hl, hb⟩ := cells_u8b (cs := cs) (fun u hu => h u (List.mem_cons_of_mem _ hu))
    obtain ⟨n, rfl, hn⟩ := h v List.mem_cons_self
    have hn2 : isByte n := hn
    refine ⟨n :: ks, by rw [hk]; rfl, by simp [hl], fun x hx => ?_⟩
    rcases List.mem_cons.1 hx with rfl | hx
    · exact hn2
    · exact hb x hx
def raOk (t : Ra) : Prop := (-32768 ≤ t.1 ∧ t.1 ≤ 32767) ∧ (-32768 ≤ t.2.1 ∧ t.2.1 ≤ 32767) ∧ (-32768 ≤ t.2.2 ∧ t.2.2 ≤ 32767)
theorem i16_wf {n : Int} (h : (Lit.int .i16 n).wf = true) : -32768 ≤ n ∧ n ≤ 32767 := by
  simpa [Lit.wf, IntKind.min, IntKind.max, IntKind.signed, IntKind.bits] using h
theorem elem_tri {H : Type} {enc : TypeId × Value → H} {W : World} {b0 : Nat} {sp : Nat → Bool} {held : Bool} {fuel : Nat} {cs : List Value} {x : DataW H × List MemPlace} (hl : cs.length = 3)
    (h : DataW.trod enc Tryz.prog W b0 sp held fuel 55 cs = some x) : ∃ t : Ra, cs = raC t ∧ raOk t := by
  match cs, hl with
  | [c0, c1, c2], _ =>
    obtain ⟨y0, y1, y2, n, _, g0, g1, g2⟩ := trod_array3 Tryz.underlying55 (by kernel_rfl) h
    obtain ⟨a, h0, _, w0⟩ := DataW.trod_int Tryz.underlying54 g0
    obtain ⟨b, h1, _, w1⟩ := DataW.trod_int Tryz.underlying54 g1
    obtain ⟨c, h2, _, w2⟩ := DataW.trod_int Tryz.underlying54 g2
    cases h0; cases h1; cases h2
    exact ⟨(a, b, c), rfl, i16_wf w0, i16_wf w1, i16_wf w2⟩
set_option maxRecDepth 100000 in
theorem open_tris {H : Type} {enc : TypeId × Value → H} {W : World} {b0 : Nat} {r : Reach} {sp : Nat → Bool} {held : Bool} {v : Value} {d : DataW H} {ps : List MemPlace}
    (hok : Value.okWide Tryz.prog W r b0 47 v) (h : DataW.Trod enc Tryz.prog W 0 sp held 47 v d ps) : ∃ (A : Option Addr) (c : Nat) (l : List Ra), v = .slice A l.length c ∧ Rd W A (l.flatMap raC) ∧ (∀ t ∈ l, raOk t) ∧ l.length ≤ maxLen := by
  obtain ⟨fuel, h⟩ := h
  rcases ok_slice Tryz.underlying47 hok with rfl | ⟨b, off, len, cap, rfl, hlc⟩
  · exact ⟨none, 0, ([] : List Ra), rfl, (fun j v h => by simp at h), (fun p hp => by cases hp), Nat.zero_le _⟩
  rcases Deep.open_slice Tryz.underlying47 h with ⟨h0, _⟩ | ⟨a, len', cap', m, n, D, Pl, hcs, _, hl, hm, hmm, _, hall⟩
  · cases h0
  · have hcs' : [Value.slice (some ⟨b, off, none⟩) len cap] = [.slice (some a) len' cap'] := hcs
    cases hcs'
    have hle : len ≤ m := by rw [hmm]; split <;> omega
    have each : ∀ i, i < len → ∃ p : Ra, raOk p ∧ ∀ j v, (raC p)[j]? = some v → W.cell? ⟨b, off + i * 3 + j, none⟩ = some v := fun i hi => by
      obtain ⟨cs', h1, h2⟩ := hall i (by omega)
      rw [show Tryz.prog.cellsOf 55 = 3 by kernel_rfl] at h1
      obtain ⟨_, hlen, hcell⟩ := World.cells?_some h1
      obtain ⟨p, rfl, h8⟩ := elem_tri hlen h2
      refine ⟨p, h8, fun j v hv => ?_⟩
      have hj : j < 3 := by rw [← hlen]; exact (List.getElem?_eq_some_iff.1 hv).1
      have h3 := hcell j hj
      rw [hv, Deep.add_add] at h3
      rw [← h3, Nat.add_assoc]
      by_cases h0 : i * 3 + j = 0
      · rw [h0]; simp [Addr.add]
      · have h1 : ¬ (i * 3 = 0 ∧ j = 0) := by omega
        simp [Addr.add, h1]
    obtain ⟨f, hf⟩ := Deep.choose_lt each
    have h8 : ∀ p ∈ (List.range len).map f, raOk p := fun p hp => by
      obtain ⟨i, hi, rfl⟩ := List.mem_map.1 hp
      exact (hf i (by simpa using hi)).1
    refine ⟨some ⟨b, off, none⟩, cap, (List.range len).map f, by simp, fun j u hj => ?_, h8, by simp; omega⟩
    have hjl : j < ((List.range len).map f).length * 3 := by
      have h1 := (List.getElem?_eq_some_iff.1 hj).1
      have h2 := flat_length raC 3 ((List.range len).map f) (fun p hp => rfl)
      omega
    have hk : j / 3 < ((List.range len).map f).length := by omega
    have hg := flat_get raC 3 ((List.range len).map f) (fun p hp => rfl) (j / 3) hk (j % 3) (Nat.mod_lt _ (by decide))
    rw [show j / 3 * 3 + j % 3 = j by omega] at hg
    have hj2 : (raC (f (j / 3)))[j % 3]? = some u := by
      rw [← hj, hg]; simp
    have hc := (hf (j / 3) (by simpa using hk)).2 _ _ hj2
    refine ⟨b, off, rfl, ?_⟩
    rw [← hc, show off + j / 3 * 3 + j % 3 = off + j by omega]
theorem wide_slice2 {P : Program} {W : World} {r : Reach} {b0 : Nat} {t e : TypeId} {c : Value} (ht : P.underlying t = some (.slice e)) (h : Cell.okWide P W r b0 t c) : Value.okWide P W r b0 t c := by
  simp only [Value.okWide, ht]; exact h
theorem trod_one2 {H : Type} {enc : TypeId × Value → H} {P : Program} {W : World} {b0 n : Nat} {r : Reach} {sp : Nat → Bool} {held : Bool} {t e : TypeId} {c : Value} {y : DataW H × List MemPlace} (ht : P.underlying t = some (.slice e)) (hok : Value.okWide P W r b0 t c)
    (h : DataW.trod enc P W 0 sp held n t [c] = some y) : DataW.Trod enc P W 0 sp held t c y.1 y.2 := by
  rcases ok_slice ht hok with rfl | ⟨b, off, len, cap, rfl, _⟩
  · exact ⟨n, h⟩
  · exact ⟨n, h⟩
set_option maxRecDepth 100000 in
theorem open_noise {H : Type} {enc : TypeId × Value → H} {W : World} {b0 : Nat} {r : Reach} {sp : Nat → Bool} {held : Bool} {v : Value} {d : DataW H} {ps : List MemPlace}
    (hok : Value.okWide Tryz.prog W r b0 50 v) (h : DataW.Trod enc Tryz.prog W 0 sp held 50 v d ps) :
    ∃ (B : Option Addr) (mc : Nat) (ot0 : List UInt8) (x y z : Nat), v = .agg #[.slice B ot0.length mc, .int .u8 (x : Int), .int .u8 (y : Int), .int .u8 (z : Int)] ∧ Rd W B (byts ot0) ∧ ot0.length ≤ maxLen ∧ x < 256 ∧ y < 256 ∧ z < 256 := by
  obtain ⟨cs, rfl, hl, hc⟩ := ok_agg (ts := [48, 5, 5, 5]) (.inl ⟨_, Tryz.underlying50⟩) (by kernel_rfl) (by kernel_rfl) hok
  obtain ⟨c0, c1, c2, c3, rfl⟩ : ∃ a b c d, cs = [a, b, c, d] := by match cs, hl with | [a, b, c, d], _ => exact ⟨a, b, c, d, rfl⟩
  obtain ⟨fuel, h⟩ := h
  obtain ⟨zs, n, _, _, _, hzl, hf⟩ := DataW.trod_struct Tryz.underlying50 h
  have hget : ∀ i, i < 4 → ∃ y, zs[i]? = some y := fun i hi => ⟨_, List.getElem?_eq_getElem (by rw [hzl]; exact hi)⟩
  obtain ⟨y0, e0⟩ := hget 0 (by decide)
  have g0 : DataW.trod enc Tryz.prog W 0 sp held n 48 ((([c0, c1, c2, c3] : List Value).drop 0).take (Tryz.prog.cellsOf 48)) = zs[0]? := hf 0 _ rfl
  rw [e0, show Tryz.prog.cellsOf 48 = 1 by kernel_rfl] at g0
  obtain ⟨x, rfl, hx⟩ := cell_int Tryz.underlying5 (hc 1 _ _ rfl rfl)
  obtain ⟨y, rfl, hy⟩ := cell_int Tryz.underlying5 (hc 2 _ _ rfl rfl)
  obtain ⟨z, rfl, hz⟩ := cell_int Tryz.underlying5 (hc 3 _ _ rfl rfl)
  have o0 := wide_slice2 Tryz.underlying48 (hc 0 _ _ rfl rfl)
  obtain ⟨B, mc, bs, rfl, hR, _, _, hm⟩ := open_byts Tryz.underlying48 Tryz.underlying5 (by kernel_rfl) o0 (trod_one2 Tryz.underlying48 o0 g0)
  obtain ⟨x', rfl, hx'⟩ := byte_nat hx
  obtain ⟨y', rfl, hy'⟩ := byte_nat hy
  obtain ⟨z', rfl, hz'⟩ := byte_nat hz
  exact ⟨B, mc, bs, x', y', z', rfl, hR, hm, hx', hy', hz'⟩
end Go.Proofs.YtoclnlimnjnbkaaGreatDoor
