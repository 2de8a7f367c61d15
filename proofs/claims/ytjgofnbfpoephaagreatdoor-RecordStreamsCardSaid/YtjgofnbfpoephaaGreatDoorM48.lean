/- The law of streams, walked. -/
import Derived.Test.YtjgofnbfpoephaaGreatDoorM46
import Derived.Test.YtjgofnbfpoephaaGreatDoorM44
namespace Go.Proofs.YtjgofnbfpoephaaGreatDoor
set_option linter.all false
open Go.RowKit Go.Fl
set_option linter.unusedVariables false
set_option linter.unusedSimpArgs false

theorem owned_spot {w : World} {B : Nat} {e : TypeId} {s : Nat} {v : Value} {n : Nat} {vs : List Value} (h : w.ownsRow B e s v n vs) : ∃ A c, v = .slice A n c ∧ Rd w A vs ∧ (∀ a, A = some a → a.spot = none) ∧ n ≤ c := by
  have hs := owned_slice h
  obtain ⟨A, c, rfl, hr⟩ := hs
  rcases h.2 with ⟨h1, hn⟩ | ⟨g, cap, cur, h1, _, _, hcap, _⟩
  · cases h1; exact ⟨_, _, rfl, hr, (fun a ha => by cases ha), by omega⟩
  · cases h1; exact ⟨_, _, rfl, hr, (fun a ha => by cases ha; rfl), hcap⟩
/-- the stream of samples, or none -/
def strB (xs : List Nat) : List UInt8 := if sampsI xs = 0 then toB (packI xs) else []
theorem packI_byte (xs : List Nat) : ∀ x ∈ packI xs, isByte x := by
  intro x hx
  unfold packI at hx
  rcases List.mem_append.1 hx with h | h
  · exact bodyI_byte xs x h
  · exact sealL_byte _ _ (fun z hz => by simp [zero8] at hz; subst hz; unfold isByte; omega) x h
/-- the samples of a stream, or none -/
def strX (bs : List UInt8) : List Nat := if unpE bs = 0 then upX bs (unpN bs) else []
theorem strX_good (bs : List UInt8) : (strX bs).length ≤ 4096 ∧ ∀ x ∈ strX bs, sampI x = 0 := by
  unfold strX
  by_cases h : unpE bs = 0
  · rw [if_pos h]
    have h2 : sampsI (upX bs (unpN bs)) = 0 := by
      unfold unpE at h
      split at h
      · rename_i h3; exact absurd h h3
      · exact h
    exact samps_zero h2
  · rw [if_neg h]; exact ⟨by simp, fun x hx => by simp at hx⟩
theorem sameF_refl : ∀ (xs : List Nat), (∀ x ∈ xs, sampI x = 0) → sameF xs xs = true
  | [], _ => rfl
  | x :: xs, h => by
    have hx := h x (by simp)
    obtain ⟨V, hV, _, _⟩ := unit_of hx
    rw [sameF, sameF_refl xs (fun y hy => h y (by simp [hy])), Bool.and_true]
    show (Ieee.single.order x x == some .eq) = true
    rw [order_eq_iff hV hV]; simp

theorem pack_all (A : Option Addr) (n c : Nat) (xs : List Nat) (w : World) (hA : Rd w A (flts xs)) (hn : n = xs.length) :
    Calls Tryz.prog 73 #[.slice A n c] w fun e w' => ∃ A1 c1, e = .returned (.tuple #[.slice A1 (strB xs).length c1, .int .i64 (sampsI xs)]) ∧ Rd w' A1 (byts (strB xs)) ∧ (∀ a, A1 = some a → a.spot = none) ∧ Below w.heap.size w w' := by
  by_cases h : sampsI xs = 0
  · obtain ⟨h1, h2⟩ := samps_zero h
    refine (pack_ok A n c xs w hA hn h1 h2 h).mono ?_
    rintro e w' ⟨v, rfl, ho, hb⟩
    obtain ⟨A1, c1, rfl, hr, hs, _⟩ := owned_spot ho
    have hl : (strB xs).length = (packI xs).length := by unfold strB; rw [if_pos h, toB_length]
    have hbb : byts (strB xs) = u8s (packI xs) := by unfold strB; rw [if_pos h, byts_toB (packI_byte xs)]
    exact ⟨A1, c1, by rw [hl, h], by rw [hbb]; exact hr, hs, hb⟩
  · refine (pack_bad A n c xs w hA hn h).mono ?_
    rintro e w' ⟨rfl, hb⟩
    have hl : strB xs = [] := by unfold strB; rw [if_neg h]
    exact ⟨none, 0, by rw [hl]; rfl, by rw [hl]; intro j v hv; simp [byts] at hv, (fun a ha => by cases ha), hb⟩
theorem unpack_all (A : Option Addr) (n c : Nat) (bs : List UInt8) (w : World) (hA : Rd w A (byts bs)) (hn : n = bs.length) (hc : n ≤ c) (hm : bs.length ≤ 9223372036854775807) :
    Calls Tryz.prog 74 #[.slice A n c] w fun e w' => ∃ A1 c1, e = .returned (.tuple #[.slice A1 (strX bs).length c1, .int .i64 (unpE bs)]) ∧ Rd w' A1 (flts (strX bs)) ∧ Below w.heap.size w w' := by
  refine (unpack_any A n c bs w hA hn hc hm).mono ?_
  rintro e w' ⟨v, rfl, h1, h2, hb⟩
  by_cases h : unpE bs = 0
  · obtain ⟨g, rfl, hr, _⟩ := h1 h
    have hl : strX bs = upX bs (unpN bs) := by unfold strX; rw [if_pos h]
    exact ⟨some ⟨g, 0, none⟩, _, by rw [hl, upX_length], by rw [hl]; exact Rd.row hr, hb⟩
  · obtain rfl := h2 h
    have hl : strX bs = [] := by unfold strX; rw [if_neg h]
    exact ⟨none, 0, by rw [hl]; rfl, by rw [hl]; intro j v hv; simp [flts] at hv, hb⟩
theorem unpackR_all (A : Option Addr) (n c : Nat) (bs : List UInt8) (w : World) (hA : Rd w A (byts bs)) (hn : n = bs.length) (hc : n ≤ c) (hm : bs.length ≤ 9223372036854775807) :
    Calls Tryz.prog 76 #[.slice A n c] w fun e w' => ∃ A1 c1, e = .returned (.tuple #[.slice A1 (strX bs).length c1, .int .i64 (unpE bs)]) ∧ Rd w' A1 (flts (strX bs)) ∧ Below w.heap.size w w' := by
  refine (unpackR_any A n c bs w hA hn hc hm).mono ?_
  rintro e w' ⟨v, rfl, h1, h2, hb⟩
  by_cases h : unpE bs = 0
  · obtain ⟨A1, c1, rfl, hr⟩ := owned_slice (h1 h)
    have hl : strX bs = upX bs (unpN bs) := by unfold strX; rw [if_pos h]
    exact ⟨A1, c1, by rw [hl, upX_length], by rw [hl]; exact hr, hb⟩
  · obtain rfl := h2 h
    have hl : strX bs = [] := by unfold strX; rw [if_neg h]
    exact ⟨none, 0, by rw [hl]; rfl, by rw [hl]; intro j v hv; simp [flts] at hv, hb⟩
theorem packR_all (A : Option Addr) (n c : Nat) (xs : List Nat) (w : World) (hA : Rd w A (flts xs)) (hn : n = xs.length) (h : sampsI xs = 0) :
    Calls Tryz.prog 75 #[.slice A n c] w fun e w' => ∃ A1 c1, e = .returned (.slice A1 (strB xs).length c1) ∧ Rd w' A1 (byts (strB xs)) ∧ (∀ a, A1 = some a → a.spot = none) ∧ Below w.heap.size w w' := by
  obtain ⟨h1, h2⟩ := samps_zero h
  refine (packR_ok A n c xs w hA hn h1 h2).mono ?_
  rintro e w' ⟨v, rfl, ho, hb⟩
  obtain ⟨A1, c1, rfl, hr, hs, _⟩ := owned_spot ho
  have hl : (strB xs).length = (packI xs).length := by unfold strB; rw [if_pos h, toB_length]
  have hbb : byts (strB xs) = u8s (packI xs) := by unfold strB; rw [if_pos h, byts_toB (packI_byte xs)]
  exact ⟨A1, c1, by rw [hl], by rw [hbb]; exact hr, hs, hb⟩

set_option maxRecDepth 100000 in
set_option maxHeartbeats 4000000 in
theorem streams_long (haw : AwakeOk) (A B : Option Addr) (c d : Nat) (xs : List Nat) (bs : List UInt8) (w : World) (hA : Rd w A (flts xs)) (hlc : xs.length ≤ c) (hca : A = none → c = 0) (hm : xs.length ≤ 9223372036854775807) (hB : Rd w B (byts bs)) (hdb : bs.length ≤ d) (hcb : B = none → d = 0) (hmb : bs.length ≤ 9223372036854775807) (h : Aw w) (hs : shortB xs.length = false) :
    Calls Tryz.prog 12 #[.slice A xs.length c, .slice B bs.length d] w fun e w' => e = .returned (.bool true) ∧ Below w.heap.size w w' := by
  have HA := Lib.hid h
  have HR := Lib.hid hA
  have HS := Lib.hid hB
  have HB := Lib.hid (Below.refl w.heap.size w)
  have HSL := Lib.hid (fun W => shortList_any A xs.length c W hm)
  rw [hs] at HSL
  clear h hA hB hs

  go_enter Tryz.func12, Tryz.ntmps12
  go_wp2_with fail
  refine (HSL.out _).mono ?_
  rintro e w1 ⟨rfl, hb⟩
  replace HA := Lib.hid (HA.out.old hb)
  replace HB := Lib.hid (HB.out.trans (hb.mono HB.out.size))
  clear hb
  go_wp2_with fail
  refine (haw _ HA.out).mono ?_
  rintro e w2 ⟨rfl, hb⟩
  have HB2 := Lib.hid (HB.out.trans (hb.mono HB.out.size))
  clear hb
  go_wp2
  go_ret
  exact ⟨rfl, HB2.out⟩

set_option maxRecDepth 100000 in
set_option maxHeartbeats 4000000 in
theorem streams_s300_zero (haw : AwakeOk) (A B : Option Addr) (c d : Nat) (xs : List Nat) (bs : List UInt8) (w : World) (hA : Rd w A (flts xs)) (hlc : xs.length ≤ c) (hca : A = none → c = 0) (hm : xs.length ≤ 9223372036854775807) (hB : Rd w B (byts bs)) (hdb : bs.length ≤ d) (hcb : B = none → d = 0) (hmb : bs.length ≤ 9223372036854775807) (h : Aw w) (hs : shortB xs.length = true) (hxl : xs.length ≤ 4097) (h3 : bs.length ≤ 300) (hz : sampsI xs = 0) :
    Calls Tryz.prog 12 #[.slice A xs.length c, .slice B bs.length d] w fun e w' => e = .returned (.bool true) ∧ Below w.heap.size w w' := by
  have HA := Lib.hid h
  have HR := Lib.hid hA
  have HS := Lib.hid hB
  have HB := Lib.hid (Below.refl w.heap.size w)
  have HSL := Lib.hid (fun W => shortList_any A xs.length c W hm)
  rw [hs] at HSL
  clear h hA hB hs
  have g1 : decide ((300 : Int) < (bs.length : Int)) = false := decide_eq_false (by omega)
  have hbl : bs.length ≤ 400001 := by omega
  have HSF : Hid (sameF (strX bs) (strX bs) = true) := sameF_refl _ (strX_good bs).2
  have HCS : Hid (∀ W, Rd W A (flts xs) → Calls Tryz.prog 28 #[.slice A xs.length c] W fun e w' => e = .returned (.int .i64 0) ∧ Below W.heap.size W w') := fun W hW => by have k := checkSamplesR_any A xs.length c xs W hW rfl hlc hm; rw [hz] at k; exact k
  have hpk : ∀ (A : Option Addr) (n c : Nat) (W : World), Rd W A (flts xs) → n = xs.length → Calls Tryz.prog 73 #[.slice A n c] W fun e w' => ∃ A1 c1, e = .returned (.tuple #[.slice A1 (strB xs).length c1, .int .i64 0]) ∧ Rd w' A1 (byts (strB xs)) ∧ (∀ a, A1 = some a → a.spot = none) ∧ Below W.heap.size W w' := fun A n c W h1 h2 => by have k := pack_all A n c xs W h1 h2; rw [hz] at k; exact k
  have HPK := Lib.hid hpk
  clear hpk

  go_enter Tryz.func12, Tryz.ntmps12
  go_wp2_with fail
  refine (HSL.out _).mono ?_
  rintro e w1 ⟨rfl, hb⟩
  replace HA := Lib.hid (HA.out.old hb)
  replace HR := Lib.hid (HR.out.below hb)
  replace HS := Lib.hid (HS.out.below hb)
  replace HB := Lib.hid (HB.out.trans (hb.mono HB.out.size))
  clear hb
  go_wp2_with fail
  refine (floats_any A xs.length c xs _ HR.out rfl hca (by omega)).mono ?_
  rintro e w2 ⟨v2, rfl, ho, hb⟩
  obtain ⟨FA, fc, rfl, hF⟩ := owned_slice ho
  clear ho
  replace HA := Lib.hid (HA.out.old hb)
  replace HR := Lib.hid (HR.out.below hb)
  replace HS := Lib.hid (HS.out.below hb)
  replace HB := Lib.hid (HB.out.trans (hb.mono HB.out.size))
  have HF := Lib.hid (hF)
  clear hb
  go_wp2_with fail
  refine (HPK.out FA xs.length fc _ HF.out rfl).mono ?_
  rintro e w3 ⟨SA, sc, rfl, hS1, hSs, hb⟩
  replace HA := Lib.hid (HA.out.old hb)
  replace HR := Lib.hid (HR.out.below hb)
  replace HS := Lib.hid (HS.out.below hb)
  replace HB := Lib.hid (HB.out.trans (hb.mono HB.out.size))
  replace HF := Lib.hid (HF.out.below hb)
  have HP := Lib.hid (hS1)
  clear hb
  go_wp2_with fail
  refine (bytes_any B bs.length d bs _ HS.out rfl hcb (by omega)).mono ?_
  rintro e w4 ⟨v4, rfl, ho, hb⟩
  obtain ⟨GA, gc, rfl, hG, _, hgc⟩ := owned_spot ho
  clear ho
  replace HA := Lib.hid (HA.out.old hb)
  replace HR := Lib.hid (HR.out.below hb)
  replace HS := Lib.hid (HS.out.below hb)
  replace HB := Lib.hid (HB.out.trans (hb.mono HB.out.size))
  replace HF := Lib.hid (HF.out.below hb)
  replace HP := Lib.hid (HP.out.below hb)
  have HG := Lib.hid (hG)
  clear hb
  go_wp2_with fail
  refine (unpack_all GA bs.length gc bs _ HG.out rfl hgc (by omega)).mono ?_
  rintro e w5 ⟨UA, uc, rfl, hU1, hb⟩
  replace HA := Lib.hid (HA.out.old hb)
  replace HR := Lib.hid (HR.out.below hb)
  replace HS := Lib.hid (HS.out.below hb)
  replace HB := Lib.hid (HB.out.trans (hb.mono HB.out.size))
  replace HF := Lib.hid (HF.out.below hb)
  replace HP := Lib.hid (HP.out.below hb)
  replace HG := Lib.hid (HG.out.below hb)
  have HU := Lib.hid (hU1)
  clear hb
  go_wp2_with fail
  refine (HCS.out _ HR.out).mono ?_
  rintro e w6 ⟨rfl, hb⟩
  replace HA := Lib.hid (HA.out.old hb)
  replace HR := Lib.hid (HR.out.below hb)
  replace HS := Lib.hid (HS.out.below hb)
  replace HB := Lib.hid (HB.out.trans (hb.mono HB.out.size))
  replace HF := Lib.hid (HF.out.below hb)
  replace HP := Lib.hid (HP.out.below hb)
  replace HG := Lib.hid (HG.out.below hb)
  replace HU := Lib.hid (HU.out.below hb)
  clear hb
  go_wp2_with fail
  refine (packR_all A xs.length c xs _ HR.out rfl hz).mono ?_
  rintro e w7 ⟨RA, rc, rfl, hR1, hRs, hb⟩
  replace HA := Lib.hid (HA.out.old hb)
  replace HR := Lib.hid (HR.out.below hb)
  replace HS := Lib.hid (HS.out.below hb)
  replace HB := Lib.hid (HB.out.trans (hb.mono HB.out.size))
  replace HF := Lib.hid (HF.out.below hb)
  replace HP := Lib.hid (HP.out.below hb)
  replace HG := Lib.hid (HG.out.below hb)
  replace HU := Lib.hid (HU.out.below hb)
  have HQ := Lib.hid (hR1)
  clear hb
  go_wp2_with fail
  refine (unpackR_all B bs.length d bs _ HS.out rfl hdb (by omega)).mono ?_
  rintro e w8 ⟨VA, vc, rfl, hV1, hb⟩
  replace HA := Lib.hid (HA.out.old hb)
  replace HR := Lib.hid (HR.out.below hb)
  replace HS := Lib.hid (HS.out.below hb)
  replace HB := Lib.hid (HB.out.trans (hb.mono HB.out.size))
  replace HF := Lib.hid (HF.out.below hb)
  replace HP := Lib.hid (HP.out.below hb)
  replace HG := Lib.hid (HG.out.below hb)
  replace HU := Lib.hid (HU.out.below hb)
  replace HQ := Lib.hid (HQ.out.below hb)
  have HV := Lib.hid (hV1)
  clear hb
  go_wp2_with fail
  refine (sameBytes_true SA RA _ _ sc rc (strB xs) _ HP.out HQ.out rfl rfl hSs hRs).mono ?_
  rintro e w9 ⟨rfl, hb⟩
  replace HA := Lib.hid (HA.out.old hb)
  replace HR := Lib.hid (HR.out.below hb)
  replace HS := Lib.hid (HS.out.below hb)
  replace HB := Lib.hid (HB.out.trans (hb.mono HB.out.size))
  replace HF := Lib.hid (HF.out.below hb)
  replace HP := Lib.hid (HP.out.below hb)
  replace HG := Lib.hid (HG.out.below hb)
  replace HU := Lib.hid (HU.out.below hb)
  replace HQ := Lib.hid (HQ.out.below hb)
  replace HV := Lib.hid (HV.out.below hb)
  clear hb
  go_wp2_with fail
  refine (sameSamples_any UA VA _ _ uc vc (strX bs) (strX bs) _ HU.out HV.out rfl rfl (by have := (strX_good bs).1; omega)).mono ?_
  rintro e w10 ⟨rfl, q10, rfl⟩
  rw [HSF.out]
  have hb := below_dn w9.heap.size w9 q10
  replace HA := Lib.hid (HA.out.old hb)
  replace HR := Lib.hid (HR.out.below hb)
  replace HS := Lib.hid (HS.out.below hb)
  replace HB := Lib.hid (HB.out.trans (hb.mono HB.out.size))
  replace HF := Lib.hid (HF.out.below hb)
  replace HP := Lib.hid (HP.out.below hb)
  replace HG := Lib.hid (HG.out.below hb)
  replace HU := Lib.hid (HU.out.below hb)
  replace HQ := Lib.hid (HQ.out.below hb)
  replace HV := Lib.hid (HV.out.below hb)
  clear hb
  go_wp2_with fail
  refine (haw _ HA.out).mono ?_
  rintro e w11 ⟨rfl, hb⟩
  have HB11 := Lib.hid (HB.out.trans (hb.mono HB.out.size))
  clear hb
  go_wp2
  go_ret
  exact ⟨rfl, HB11.out⟩

set_option maxRecDepth 100000 in
set_option maxHeartbeats 4000000 in
theorem streams_s300_bad (haw : AwakeOk) (A B : Option Addr) (c d : Nat) (xs : List Nat) (bs : List UInt8) (w : World) (hA : Rd w A (flts xs)) (hlc : xs.length ≤ c) (hca : A = none → c = 0) (hm : xs.length ≤ 9223372036854775807) (hB : Rd w B (byts bs)) (hdb : bs.length ≤ d) (hcb : B = none → d = 0) (hmb : bs.length ≤ 9223372036854775807) (h : Aw w) (hs : shortB xs.length = true) (hxl : xs.length ≤ 4097) (h3 : bs.length ≤ 300) (hz : sampsI xs ≠ 0) :
    Calls Tryz.prog 12 #[.slice A xs.length c, .slice B bs.length d] w fun e w' => e = .returned (.bool true) ∧ Below w.heap.size w w' := by
  have HA := Lib.hid h
  have HR := Lib.hid hA
  have HS := Lib.hid hB
  have HB := Lib.hid (Below.refl w.heap.size w)
  have HSL := Lib.hid (fun W => shortList_any A xs.length c W hm)
  rw [hs] at HSL
  clear h hA hB hs
  have g1 : decide ((300 : Int) < (bs.length : Int)) = false := decide_eq_false (by omega)
  have hbl : bs.length ≤ 400001 := by omega
  have HSF : Hid (sameF (strX bs) (strX bs) = true) := sameF_refl _ (strX_good bs).2
  have HCS : Hid (∀ W, Rd W A (flts xs) → Calls Tryz.prog 28 #[.slice A xs.length c] W fun e w' => e = .returned (.int .i64 (sampsI xs)) ∧ Below W.heap.size W w') := fun W hW => checkSamplesR_any A xs.length c xs W hW rfl hlc hm
  have hzz : (sampsI xs == 0) = false := by simpa using hz
  have HNB : Hid (∀ W, Rd W none (byts (strB xs))) := fun W => by unfold strB; rw [if_neg hz]; intro j v hv; simp [byts] at hv
  have HNL : Hid (0 = (strB xs).length) := by unfold Hid strB; rw [if_neg hz]; rfl

  go_enter Tryz.func12, Tryz.ntmps12
  go_wp2_with fail
  refine (HSL.out _).mono ?_
  rintro e w1 ⟨rfl, hb⟩
  replace HA := Lib.hid (HA.out.old hb)
  replace HR := Lib.hid (HR.out.below hb)
  replace HS := Lib.hid (HS.out.below hb)
  replace HB := Lib.hid (HB.out.trans (hb.mono HB.out.size))
  clear hb
  go_wp2_with fail
  refine (floats_any A xs.length c xs _ HR.out rfl hca (by omega)).mono ?_
  rintro e w2 ⟨v2, rfl, ho, hb⟩
  obtain ⟨FA, fc, rfl, hF⟩ := owned_slice ho
  clear ho
  replace HA := Lib.hid (HA.out.old hb)
  replace HR := Lib.hid (HR.out.below hb)
  replace HS := Lib.hid (HS.out.below hb)
  replace HB := Lib.hid (HB.out.trans (hb.mono HB.out.size))
  have HF := Lib.hid (hF)
  clear hb
  go_wp2_with fail
  refine (pack_all FA xs.length fc xs _ HF.out rfl).mono ?_
  rintro e w3 ⟨SA, sc, rfl, hS1, hSs, hb⟩
  replace HA := Lib.hid (HA.out.old hb)
  replace HR := Lib.hid (HR.out.below hb)
  replace HS := Lib.hid (HS.out.below hb)
  replace HB := Lib.hid (HB.out.trans (hb.mono HB.out.size))
  replace HF := Lib.hid (HF.out.below hb)
  have HP := Lib.hid (hS1)
  clear hb
  go_wp2_with fail
  refine (bytes_any B bs.length d bs _ HS.out rfl hcb (by omega)).mono ?_
  rintro e w4 ⟨v4, rfl, ho, hb⟩
  obtain ⟨GA, gc, rfl, hG, _, hgc⟩ := owned_spot ho
  clear ho
  replace HA := Lib.hid (HA.out.old hb)
  replace HR := Lib.hid (HR.out.below hb)
  replace HS := Lib.hid (HS.out.below hb)
  replace HB := Lib.hid (HB.out.trans (hb.mono HB.out.size))
  replace HF := Lib.hid (HF.out.below hb)
  replace HP := Lib.hid (HP.out.below hb)
  have HG := Lib.hid (hG)
  clear hb
  go_wp2_with fail
  refine (unpack_all GA bs.length gc bs _ HG.out rfl hgc (by omega)).mono ?_
  rintro e w5 ⟨UA, uc, rfl, hU1, hb⟩
  replace HA := Lib.hid (HA.out.old hb)
  replace HR := Lib.hid (HR.out.below hb)
  replace HS := Lib.hid (HS.out.below hb)
  replace HB := Lib.hid (HB.out.trans (hb.mono HB.out.size))
  replace HF := Lib.hid (HF.out.below hb)
  replace HP := Lib.hid (HP.out.below hb)
  replace HG := Lib.hid (HG.out.below hb)
  have HU := Lib.hid (hU1)
  clear hb
  go_wp2_with fail
  refine (HCS.out _ HR.out).mono ?_
  rintro e w6 ⟨rfl, hb⟩
  replace HA := Lib.hid (HA.out.old hb)
  replace HR := Lib.hid (HR.out.below hb)
  replace HS := Lib.hid (HS.out.below hb)
  replace HB := Lib.hid (HB.out.trans (hb.mono HB.out.size))
  replace HF := Lib.hid (HF.out.below hb)
  replace HP := Lib.hid (HP.out.below hb)
  replace HG := Lib.hid (HG.out.below hb)
  replace HU := Lib.hid (HU.out.below hb)
  clear hb
  go_wp2_with fail
  refine (unpackR_all B bs.length d bs _ HS.out rfl hdb (by omega)).mono ?_
  rintro e w8 ⟨VA, vc, rfl, hV1, hb⟩
  replace HA := Lib.hid (HA.out.old hb)
  replace HR := Lib.hid (HR.out.below hb)
  replace HS := Lib.hid (HS.out.below hb)
  replace HB := Lib.hid (HB.out.trans (hb.mono HB.out.size))
  replace HF := Lib.hid (HF.out.below hb)
  replace HP := Lib.hid (HP.out.below hb)
  replace HG := Lib.hid (HG.out.below hb)
  replace HU := Lib.hid (HU.out.below hb)
  have HV := Lib.hid (hV1)
  clear hb
  go_wp2_with fail
  refine (sameBytes_true SA none _ _ sc 0 (strB xs) _ HP.out (HNB.out _) rfl HNL.out hSs (fun a h => by cases h)).mono ?_
  rintro e w9 ⟨rfl, hb⟩
  replace HA := Lib.hid (HA.out.old hb)
  replace HR := Lib.hid (HR.out.below hb)
  replace HS := Lib.hid (HS.out.below hb)
  replace HB := Lib.hid (HB.out.trans (hb.mono HB.out.size))
  replace HF := Lib.hid (HF.out.below hb)
  replace HP := Lib.hid (HP.out.below hb)
  replace HG := Lib.hid (HG.out.below hb)
  replace HU := Lib.hid (HU.out.below hb)
  replace HV := Lib.hid (HV.out.below hb)
  clear hb
  go_wp2_with fail
  refine (sameSamples_any UA VA _ _ uc vc (strX bs) (strX bs) _ HU.out HV.out rfl rfl (by have := (strX_good bs).1; omega)).mono ?_
  rintro e w10 ⟨rfl, q10, rfl⟩
  rw [HSF.out]
  have hb := below_dn w9.heap.size w9 q10
  replace HA := Lib.hid (HA.out.old hb)
  replace HR := Lib.hid (HR.out.below hb)
  replace HS := Lib.hid (HS.out.below hb)
  replace HB := Lib.hid (HB.out.trans (hb.mono HB.out.size))
  replace HF := Lib.hid (HF.out.below hb)
  replace HP := Lib.hid (HP.out.below hb)
  replace HG := Lib.hid (HG.out.below hb)
  replace HU := Lib.hid (HU.out.below hb)
  replace HV := Lib.hid (HV.out.below hb)
  clear hb
  go_wp2_with fail
  refine (haw _ HA.out).mono ?_
  rintro e w11 ⟨rfl, hb⟩
  have HB11 := Lib.hid (HB.out.trans (hb.mono HB.out.size))
  clear hb
  go_wp2
  go_ret
  exact ⟨rfl, HB11.out⟩

set_option maxRecDepth 100000 in
set_option maxHeartbeats 4000000 in
theorem streams_s400_zero (haw : AwakeOk) (A B : Option Addr) (c d : Nat) (xs : List Nat) (bs : List UInt8) (w : World) (hA : Rd w A (flts xs)) (hlc : xs.length ≤ c) (hca : A = none → c = 0) (hm : xs.length ≤ 9223372036854775807) (hB : Rd w B (byts bs)) (hdb : bs.length ≤ d) (hcb : B = none → d = 0) (hmb : bs.length ≤ 9223372036854775807) (h : Aw w) (hs : shortB xs.length = true) (hxl : xs.length ≤ 4097) (h3 : bs.length = 400001) (hz : sampsI xs = 0) :
    Calls Tryz.prog 12 #[.slice A xs.length c, .slice B bs.length d] w fun e w' => e = .returned (.bool true) ∧ Below w.heap.size w w' := by
  have HA := Lib.hid h
  have HR := Lib.hid hA
  have HS := Lib.hid hB
  have HB := Lib.hid (Below.refl w.heap.size w)
  have HSL := Lib.hid (fun W => shortList_any A xs.length c W hm)
  rw [hs] at HSL
  clear h hA hB hs
  have g1 : decide ((300 : Int) < (bs.length : Int)) = true := decide_eq_true (by omega)
  have g2 : ((bs.length : Int) != 400001) = false := by rw [bne_eq_false_iff_eq]; omega
  have hbl : bs.length ≤ 400001 := by omega
  clear h3
  have HSF : Hid (sameF (strX bs) (strX bs) = true) := sameF_refl _ (strX_good bs).2
  have HCS : Hid (∀ W, Rd W A (flts xs) → Calls Tryz.prog 28 #[.slice A xs.length c] W fun e w' => e = .returned (.int .i64 0) ∧ Below W.heap.size W w') := fun W hW => by have k := checkSamplesR_any A xs.length c xs W hW rfl hlc hm; rw [hz] at k; exact k
  have hpk : ∀ (A : Option Addr) (n c : Nat) (W : World), Rd W A (flts xs) → n = xs.length → Calls Tryz.prog 73 #[.slice A n c] W fun e w' => ∃ A1 c1, e = .returned (.tuple #[.slice A1 (strB xs).length c1, .int .i64 0]) ∧ Rd w' A1 (byts (strB xs)) ∧ (∀ a, A1 = some a → a.spot = none) ∧ Below W.heap.size W w' := fun A n c W h1 h2 => by have k := pack_all A n c xs W h1 h2; rw [hz] at k; exact k
  have HPK := Lib.hid hpk
  clear hpk

  go_enter Tryz.func12, Tryz.ntmps12
  go_wp2_with fail
  refine (HSL.out _).mono ?_
  rintro e w1 ⟨rfl, hb⟩
  replace HA := Lib.hid (HA.out.old hb)
  replace HR := Lib.hid (HR.out.below hb)
  replace HS := Lib.hid (HS.out.below hb)
  replace HB := Lib.hid (HB.out.trans (hb.mono HB.out.size))
  clear hb
  go_wp2_with fail
  refine (floats_any A xs.length c xs _ HR.out rfl hca (by omega)).mono ?_
  rintro e w2 ⟨v2, rfl, ho, hb⟩
  obtain ⟨FA, fc, rfl, hF⟩ := owned_slice ho
  clear ho
  replace HA := Lib.hid (HA.out.old hb)
  replace HR := Lib.hid (HR.out.below hb)
  replace HS := Lib.hid (HS.out.below hb)
  replace HB := Lib.hid (HB.out.trans (hb.mono HB.out.size))
  have HF := Lib.hid (hF)
  clear hb
  go_wp2_with fail
  refine (HPK.out FA xs.length fc _ HF.out rfl).mono ?_
  rintro e w3 ⟨SA, sc, rfl, hS1, hSs, hb⟩
  replace HA := Lib.hid (HA.out.old hb)
  replace HR := Lib.hid (HR.out.below hb)
  replace HS := Lib.hid (HS.out.below hb)
  replace HB := Lib.hid (HB.out.trans (hb.mono HB.out.size))
  replace HF := Lib.hid (HF.out.below hb)
  have HP := Lib.hid (hS1)
  clear hb
  go_wp2_with fail
  refine (bytes_any B bs.length d bs _ HS.out rfl hcb (by omega)).mono ?_
  rintro e w4 ⟨v4, rfl, ho, hb⟩
  obtain ⟨GA, gc, rfl, hG, _, hgc⟩ := owned_spot ho
  clear ho
  replace HA := Lib.hid (HA.out.old hb)
  replace HR := Lib.hid (HR.out.below hb)
  replace HS := Lib.hid (HS.out.below hb)
  replace HB := Lib.hid (HB.out.trans (hb.mono HB.out.size))
  replace HF := Lib.hid (HF.out.below hb)
  replace HP := Lib.hid (HP.out.below hb)
  have HG := Lib.hid (hG)
  clear hb
  go_wp2_with fail
  refine (unpack_all GA bs.length gc bs _ HG.out rfl hgc (by omega)).mono ?_
  rintro e w5 ⟨UA, uc, rfl, hU1, hb⟩
  replace HA := Lib.hid (HA.out.old hb)
  replace HR := Lib.hid (HR.out.below hb)
  replace HS := Lib.hid (HS.out.below hb)
  replace HB := Lib.hid (HB.out.trans (hb.mono HB.out.size))
  replace HF := Lib.hid (HF.out.below hb)
  replace HP := Lib.hid (HP.out.below hb)
  replace HG := Lib.hid (HG.out.below hb)
  have HU := Lib.hid (hU1)
  clear hb
  go_wp2_with fail
  refine (HCS.out _ HR.out).mono ?_
  rintro e w6 ⟨rfl, hb⟩
  replace HA := Lib.hid (HA.out.old hb)
  replace HR := Lib.hid (HR.out.below hb)
  replace HS := Lib.hid (HS.out.below hb)
  replace HB := Lib.hid (HB.out.trans (hb.mono HB.out.size))
  replace HF := Lib.hid (HF.out.below hb)
  replace HP := Lib.hid (HP.out.below hb)
  replace HG := Lib.hid (HG.out.below hb)
  replace HU := Lib.hid (HU.out.below hb)
  clear hb
  go_wp2_with fail
  refine (packR_all A xs.length c xs _ HR.out rfl hz).mono ?_
  rintro e w7 ⟨RA, rc, rfl, hR1, hRs, hb⟩
  replace HA := Lib.hid (HA.out.old hb)
  replace HR := Lib.hid (HR.out.below hb)
  replace HS := Lib.hid (HS.out.below hb)
  replace HB := Lib.hid (HB.out.trans (hb.mono HB.out.size))
  replace HF := Lib.hid (HF.out.below hb)
  replace HP := Lib.hid (HP.out.below hb)
  replace HG := Lib.hid (HG.out.below hb)
  replace HU := Lib.hid (HU.out.below hb)
  have HQ := Lib.hid (hR1)
  clear hb
  go_wp2_with fail
  refine (unpackR_all B bs.length d bs _ HS.out rfl hdb (by omega)).mono ?_
  rintro e w8 ⟨VA, vc, rfl, hV1, hb⟩
  replace HA := Lib.hid (HA.out.old hb)
  replace HR := Lib.hid (HR.out.below hb)
  replace HS := Lib.hid (HS.out.below hb)
  replace HB := Lib.hid (HB.out.trans (hb.mono HB.out.size))
  replace HF := Lib.hid (HF.out.below hb)
  replace HP := Lib.hid (HP.out.below hb)
  replace HG := Lib.hid (HG.out.below hb)
  replace HU := Lib.hid (HU.out.below hb)
  replace HQ := Lib.hid (HQ.out.below hb)
  have HV := Lib.hid (hV1)
  clear hb
  go_wp2_with fail
  refine (sameBytes_true SA RA _ _ sc rc (strB xs) _ HP.out HQ.out rfl rfl hSs hRs).mono ?_
  rintro e w9 ⟨rfl, hb⟩
  replace HA := Lib.hid (HA.out.old hb)
  replace HR := Lib.hid (HR.out.below hb)
  replace HS := Lib.hid (HS.out.below hb)
  replace HB := Lib.hid (HB.out.trans (hb.mono HB.out.size))
  replace HF := Lib.hid (HF.out.below hb)
  replace HP := Lib.hid (HP.out.below hb)
  replace HG := Lib.hid (HG.out.below hb)
  replace HU := Lib.hid (HU.out.below hb)
  replace HQ := Lib.hid (HQ.out.below hb)
  replace HV := Lib.hid (HV.out.below hb)
  clear hb
  go_wp2_with fail
  refine (sameSamples_any UA VA _ _ uc vc (strX bs) (strX bs) _ HU.out HV.out rfl rfl (by have := (strX_good bs).1; omega)).mono ?_
  rintro e w10 ⟨rfl, q10, rfl⟩
  rw [HSF.out]
  have hb := below_dn w9.heap.size w9 q10
  replace HA := Lib.hid (HA.out.old hb)
  replace HR := Lib.hid (HR.out.below hb)
  replace HS := Lib.hid (HS.out.below hb)
  replace HB := Lib.hid (HB.out.trans (hb.mono HB.out.size))
  replace HF := Lib.hid (HF.out.below hb)
  replace HP := Lib.hid (HP.out.below hb)
  replace HG := Lib.hid (HG.out.below hb)
  replace HU := Lib.hid (HU.out.below hb)
  replace HQ := Lib.hid (HQ.out.below hb)
  replace HV := Lib.hid (HV.out.below hb)
  clear hb
  go_wp2_with fail
  refine (haw _ HA.out).mono ?_
  rintro e w11 ⟨rfl, hb⟩
  have HB11 := Lib.hid (HB.out.trans (hb.mono HB.out.size))
  clear hb
  go_wp2
  go_ret
  exact ⟨rfl, HB11.out⟩

set_option maxRecDepth 100000 in
set_option maxHeartbeats 4000000 in
theorem streams_s400_bad (haw : AwakeOk) (A B : Option Addr) (c d : Nat) (xs : List Nat) (bs : List UInt8) (w : World) (hA : Rd w A (flts xs)) (hlc : xs.length ≤ c) (hca : A = none → c = 0) (hm : xs.length ≤ 9223372036854775807) (hB : Rd w B (byts bs)) (hdb : bs.length ≤ d) (hcb : B = none → d = 0) (hmb : bs.length ≤ 9223372036854775807) (h : Aw w) (hs : shortB xs.length = true) (hxl : xs.length ≤ 4097) (h3 : bs.length = 400001) (hz : sampsI xs ≠ 0) :
    Calls Tryz.prog 12 #[.slice A xs.length c, .slice B bs.length d] w fun e w' => e = .returned (.bool true) ∧ Below w.heap.size w w' := by
  have HA := Lib.hid h
  have HR := Lib.hid hA
  have HS := Lib.hid hB
  have HB := Lib.hid (Below.refl w.heap.size w)
  have HSL := Lib.hid (fun W => shortList_any A xs.length c W hm)
  rw [hs] at HSL
  clear h hA hB hs
  have g1 : decide ((300 : Int) < (bs.length : Int)) = true := decide_eq_true (by omega)
  have g2 : ((bs.length : Int) != 400001) = false := by rw [bne_eq_false_iff_eq]; omega
  have hbl : bs.length ≤ 400001 := by omega
  clear h3
  have HSF : Hid (sameF (strX bs) (strX bs) = true) := sameF_refl _ (strX_good bs).2
  have HCS : Hid (∀ W, Rd W A (flts xs) → Calls Tryz.prog 28 #[.slice A xs.length c] W fun e w' => e = .returned (.int .i64 (sampsI xs)) ∧ Below W.heap.size W w') := fun W hW => checkSamplesR_any A xs.length c xs W hW rfl hlc hm
  have hzz : (sampsI xs == 0) = false := by simpa using hz
  have HNB : Hid (∀ W, Rd W none (byts (strB xs))) := fun W => by unfold strB; rw [if_neg hz]; intro j v hv; simp [byts] at hv
  have HNL : Hid (0 = (strB xs).length) := by unfold Hid strB; rw [if_neg hz]; rfl

  go_enter Tryz.func12, Tryz.ntmps12
  go_wp2_with fail
  refine (HSL.out _).mono ?_
  rintro e w1 ⟨rfl, hb⟩
  replace HA := Lib.hid (HA.out.old hb)
  replace HR := Lib.hid (HR.out.below hb)
  replace HS := Lib.hid (HS.out.below hb)
  replace HB := Lib.hid (HB.out.trans (hb.mono HB.out.size))
  clear hb
  go_wp2_with fail
  refine (floats_any A xs.length c xs _ HR.out rfl hca (by omega)).mono ?_
  rintro e w2 ⟨v2, rfl, ho, hb⟩
  obtain ⟨FA, fc, rfl, hF⟩ := owned_slice ho
  clear ho
  replace HA := Lib.hid (HA.out.old hb)
  replace HR := Lib.hid (HR.out.below hb)
  replace HS := Lib.hid (HS.out.below hb)
  replace HB := Lib.hid (HB.out.trans (hb.mono HB.out.size))
  have HF := Lib.hid (hF)
  clear hb
  go_wp2_with fail
  refine (pack_all FA xs.length fc xs _ HF.out rfl).mono ?_
  rintro e w3 ⟨SA, sc, rfl, hS1, hSs, hb⟩
  replace HA := Lib.hid (HA.out.old hb)
  replace HR := Lib.hid (HR.out.below hb)
  replace HS := Lib.hid (HS.out.below hb)
  replace HB := Lib.hid (HB.out.trans (hb.mono HB.out.size))
  replace HF := Lib.hid (HF.out.below hb)
  have HP := Lib.hid (hS1)
  clear hb
  go_wp2_with fail
  refine (bytes_any B bs.length d bs _ HS.out rfl hcb (by omega)).mono ?_
  rintro e w4 ⟨v4, rfl, ho, hb⟩
  obtain ⟨GA, gc, rfl, hG, _, hgc⟩ := owned_spot ho
  clear ho
  replace HA := Lib.hid (HA.out.old hb)
  replace HR := Lib.hid (HR.out.below hb)
  replace HS := Lib.hid (HS.out.below hb)
  replace HB := Lib.hid (HB.out.trans (hb.mono HB.out.size))
  replace HF := Lib.hid (HF.out.below hb)
  replace HP := Lib.hid (HP.out.below hb)
  have HG := Lib.hid (hG)
  clear hb
  go_wp2_with fail
  refine (unpack_all GA bs.length gc bs _ HG.out rfl hgc (by omega)).mono ?_
  rintro e w5 ⟨UA, uc, rfl, hU1, hb⟩
  replace HA := Lib.hid (HA.out.old hb)
  replace HR := Lib.hid (HR.out.below hb)
  replace HS := Lib.hid (HS.out.below hb)
  replace HB := Lib.hid (HB.out.trans (hb.mono HB.out.size))
  replace HF := Lib.hid (HF.out.below hb)
  replace HP := Lib.hid (HP.out.below hb)
  replace HG := Lib.hid (HG.out.below hb)
  have HU := Lib.hid (hU1)
  clear hb
  go_wp2_with fail
  refine (HCS.out _ HR.out).mono ?_
  rintro e w6 ⟨rfl, hb⟩
  replace HA := Lib.hid (HA.out.old hb)
  replace HR := Lib.hid (HR.out.below hb)
  replace HS := Lib.hid (HS.out.below hb)
  replace HB := Lib.hid (HB.out.trans (hb.mono HB.out.size))
  replace HF := Lib.hid (HF.out.below hb)
  replace HP := Lib.hid (HP.out.below hb)
  replace HG := Lib.hid (HG.out.below hb)
  replace HU := Lib.hid (HU.out.below hb)
  clear hb
  go_wp2_with fail
  refine (unpackR_all B bs.length d bs _ HS.out rfl hdb (by omega)).mono ?_
  rintro e w8 ⟨VA, vc, rfl, hV1, hb⟩
  replace HA := Lib.hid (HA.out.old hb)
  replace HR := Lib.hid (HR.out.below hb)
  replace HS := Lib.hid (HS.out.below hb)
  replace HB := Lib.hid (HB.out.trans (hb.mono HB.out.size))
  replace HF := Lib.hid (HF.out.below hb)
  replace HP := Lib.hid (HP.out.below hb)
  replace HG := Lib.hid (HG.out.below hb)
  replace HU := Lib.hid (HU.out.below hb)
  have HV := Lib.hid (hV1)
  clear hb
  go_wp2_with fail
  refine (sameBytes_true SA none _ _ sc 0 (strB xs) _ HP.out (HNB.out _) rfl HNL.out hSs (fun a h => by cases h)).mono ?_
  rintro e w9 ⟨rfl, hb⟩
  replace HA := Lib.hid (HA.out.old hb)
  replace HR := Lib.hid (HR.out.below hb)
  replace HS := Lib.hid (HS.out.below hb)
  replace HB := Lib.hid (HB.out.trans (hb.mono HB.out.size))
  replace HF := Lib.hid (HF.out.below hb)
  replace HP := Lib.hid (HP.out.below hb)
  replace HG := Lib.hid (HG.out.below hb)
  replace HU := Lib.hid (HU.out.below hb)
  replace HV := Lib.hid (HV.out.below hb)
  clear hb
  go_wp2_with fail
  refine (sameSamples_any UA VA _ _ uc vc (strX bs) (strX bs) _ HU.out HV.out rfl rfl (by have := (strX_good bs).1; omega)).mono ?_
  rintro e w10 ⟨rfl, q10, rfl⟩
  rw [HSF.out]
  have hb := below_dn w9.heap.size w9 q10
  replace HA := Lib.hid (HA.out.old hb)
  replace HR := Lib.hid (HR.out.below hb)
  replace HS := Lib.hid (HS.out.below hb)
  replace HB := Lib.hid (HB.out.trans (hb.mono HB.out.size))
  replace HF := Lib.hid (HF.out.below hb)
  replace HP := Lib.hid (HP.out.below hb)
  replace HG := Lib.hid (HG.out.below hb)
  replace HU := Lib.hid (HU.out.below hb)
  replace HV := Lib.hid (HV.out.below hb)
  clear hb
  go_wp2_with fail
  refine (haw _ HA.out).mono ?_
  rintro e w11 ⟨rfl, hb⟩
  have HB11 := Lib.hid (HB.out.trans (hb.mono HB.out.size))
  clear hb
  go_wp2
  go_ret
  exact ⟨rfl, HB11.out⟩

set_option maxRecDepth 100000 in
set_option maxHeartbeats 4000000 in
theorem streams_far (haw : AwakeOk) (A B : Option Addr) (c d : Nat) (xs : List Nat) (bs : List UInt8) (w : World) (hA : Rd w A (flts xs)) (hlc : xs.length ≤ c) (hca : A = none → c = 0) (hm : xs.length ≤ 9223372036854775807) (hB : Rd w B (byts bs)) (hdb : bs.length ≤ d) (hcb : B = none → d = 0) (hmb : bs.length ≤ 9223372036854775807) (h : Aw w) (hs : shortB xs.length = true) (h3 : 300 < bs.length) (h4 : bs.length ≠ 400001) :
    Calls Tryz.prog 12 #[.slice A xs.length c, .slice B bs.length d] w fun e w' => e = .returned (.bool true) ∧ Below w.heap.size w w' := by
  have HA := Lib.hid h
  have HR := Lib.hid hA
  have HS := Lib.hid hB
  have HB := Lib.hid (Below.refl w.heap.size w)
  have HSL := Lib.hid (fun W => shortList_any A xs.length c W hm)
  rw [hs] at HSL
  clear h hA hB hs
  have g1 : decide ((300 : Int) < (bs.length : Int)) = true := decide_eq_true (by omega)
  have g2 : ((bs.length : Int) != 400001) = true := by rw [bne_iff_ne]; omega

  go_enter Tryz.func12, Tryz.ntmps12
  go_wp2_with fail
  refine (HSL.out _).mono ?_
  rintro e w1 ⟨rfl, hb⟩
  replace HA := Lib.hid (HA.out.old hb)
  replace HB := Lib.hid (HB.out.trans (hb.mono HB.out.size))
  clear hb
  go_wp2_with fail
  refine (haw _ HA.out).mono ?_
  rintro e w2 ⟨rfl, hb⟩
  have HB2 := Lib.hid (HB.out.trans (hb.mono HB.out.size))
  clear hb
  go_wp2
  go_ret
  exact ⟨rfl, HB2.out⟩

theorem recordStreams_ok (haw : AwakeOk) (A B : Option Addr) (c d : Nat) (xs : List Nat) (bs : List UInt8) (w : World) (hA : Rd w A (flts xs)) (hlc : xs.length ≤ c) (hca : A = none → c = 0) (hm : xs.length ≤ 9223372036854775807) (hB : Rd w B (byts bs)) (hdb : bs.length ≤ d) (hcb : B = none → d = 0) (hmb : bs.length ≤ 9223372036854775807) (h : Aw w) :
    Calls Tryz.prog 12 #[.slice A xs.length c, .slice B bs.length d] w fun e w' => e = .returned (.bool true) ∧ Below w.heap.size w w' := by
  cases hs : shortB xs.length with
  | false => exact streams_long haw A B c d xs bs w hA hlc hca hm hB hdb hcb hmb h hs
  | true =>
    have hxl : xs.length ≤ 4097 := by simp [shortB] at hs; omega
    by_cases h3 : bs.length ≤ 300
    · by_cases hz : sampsI xs = 0
      · exact streams_s300_zero haw A B c d xs bs w hA hlc hca hm hB hdb hcb hmb h hs hxl h3 hz
      · exact streams_s300_bad haw A B c d xs bs w hA hlc hca hm hB hdb hcb hmb h hs hxl h3 hz
    · by_cases h4 : bs.length = 400001
      · by_cases hz : sampsI xs = 0
        · exact streams_s400_zero haw A B c d xs bs w hA hlc hca hm hB hdb hcb hmb h hs hxl h4 hz
        · exact streams_s400_bad haw A B c d xs bs w hA hlc hca hm hB hdb hcb hmb h hs hxl h4 hz
      · exact streams_far haw A B c d xs bs w hA hlc hca hm hB hdb hcb hmb h hs (by omega) h4
end Go.Proofs.YtjgofnbfpoephaaGreatDoor
