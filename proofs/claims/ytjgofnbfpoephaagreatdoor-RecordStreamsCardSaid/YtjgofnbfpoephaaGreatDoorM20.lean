/- Contracts: a stream is unpacked. -/
import Derived.Test.YtjgofnbfpoephaaGreatDoorM15
import Derived.Test.YtjgofnbfpoephaaGreatDoorM10
import Derived.Test.YtjgofnbfpoephaaGreatDoorM06
import Derived.Test.YtjgofnbfpoephaaGreatDoorM04
import Derived.Deep.DeepCutAuto
import Derived.Laws.BytesArg
import Derived.Test.YtjgofnbfpoephaaGreatDoorM07
namespace Go.Proofs.YtjgofnbfpoephaaGreatDoor
set_option linter.all false
open Go.RowKit Go.Fl
set_option linter.unusedVariables false
set_option linter.unusedSimpArgs false

/-- the number of samples that the head of a stream tells -/
def strN (bs : List UInt8) : Int := wholeI (byteAt bs 4) (byteAt bs 5)
def strE (bs : List UInt8) : Int :=
  if 400000 < bs.length then 26 else if bs.length < 14 then 28 else if bs.take 4 ≠ [71, 76, 83, 49] then 1
  else if (bs.length : Int) ≠ 14 + 2 * strN bs then 2 else if !sealedB zero8 bs then 27 else 0
theorem wholeI_bd {a b : Int} (ha : 0 ≤ a ∧ a ≤ 255) (hb : 0 ≤ b ∧ b ≤ 255) : 0 ≤ wholeI a b ∧ wholeI a b ≤ 65535 := by unfold wholeI; omega
theorem strN_bd (bs : List UInt8) : 0 ≤ strN bs ∧ strN bs ≤ 65535 := wholeI_bd (byteAt_bd _ _) (byteAt_bd _ _)
theorem Rd.byteAt {w : World} {A : Option Addr} {bs : List UInt8} (h : Rd w A (byts bs)) {j : Nat} (hj : j < bs.length) : ∃ b off, A = some ⟨b, off, none⟩ ∧ w.cell? ⟨b, off + j, none⟩ = some (.int .u8 (byteAt bs j)) := by
  obtain ⟨b, off, h1, h2⟩ := h.byte hj
  refine ⟨b, off, h1, ?_⟩
  rw [h2]; simp [Go.Proofs.YtjgofnbfpoephaaGreatDoor.byteAt, List.getD, List.getElem?_eq_getElem hj]

set_option maxHeartbeats 400000 in
theorem streamNumber_any (A : Option Addr) (n c : Nat) (bs : List UInt8) (w : World) (hA : Rd w A (byts bs)) (hn : n = bs.length) (h6 : 6 ≤ bs.length) (hm : bs.length ≤ 400000) :
    Calls Tryz.prog 152 #[.slice A n c] w fun e w' => e = .returned (.int .i64 (strN bs)) ∧ ∃ q, w' = w.drewN q := by
  subst hn
  obtain ⟨b, off, rfl, c4⟩ := hA.byteAt (j := 4) (by omega)
  obtain ⟨b', off', hb', c5⟩ := hA.byteAt (j := 5) (by omega)
  cases hb'
  have d4 := byteAt_bd bs 4
  have d5 := byteAt_bd bs 5
  have HN : Hid (strN bs = wholeI (byteAt bs 4) (byteAt bs 5)) := rfl
  obtain ⟨x, hx⟩ : ∃ x, x = byteAt bs 4 := ⟨_, rfl⟩
  obtain ⟨y, hy⟩ : ∃ y, y = byteAt bs 5 := ⟨_, rfl⟩
  rw [← hx] at c4 d4 HN; rw [← hy] at c5 d5 HN
  have D4 := Lib.hid d4; have D5 := Lib.hid d5
  have i4 : 4 < bs.length := by omega
  have i5 : 5 < bs.length := by omega
  have j4 : (4 : Int) < (bs.length : Int) := by omega
  have j5 : (5 : Int) < (bs.length : Int) := by omega
  clear hx hy d4 d5 hA
  go_enter Tryz.func152, Tryz.ntmps152
  go_wp2
  go_quiet ((go_at_call 103; (first | exact quiet_same (whole_any _ _ _ D4.out D5.out) | exact quiet_same2 (whole_any _ _ _ D4.out D5.out))))
  go_wp2
  go_ret
  exact ⟨ret_int HN.out.symm, _, rfl⟩

set_option maxRecDepth 100000 in
set_option maxHeartbeats 400000 in
theorem checkStream_any (A : Option Addr) (n c : Nat) (bs : List UInt8) (w : World) (hA : Rd w A (byts bs)) (hn : n = bs.length) (hc : n ≤ c) (hm : bs.length ≤ 9223372036854775807) :
    Calls Tryz.prog 151 #[.slice A n c] w fun e w' => e = .returned (.int .i64 (strE bs)) ∧ Below w.heap.size w w' := by
  subst hn
  by_cases h1 : 400000 < bs.length
  · have HE : Hid (strE bs = 26) := by unfold Hid strE; rw [if_pos h1]
    go_enter Tryz.func151, Tryz.ntmps151
    go_wp2
    go_ret
    exact ⟨ret_int HE.out.symm, Below.refl _ _⟩
  by_cases h2 : bs.length < 14
  · have HE : Hid (strE bs = 28) := by unfold Hid strE; rw [if_neg h1, if_pos h2]
    go_enter Tryz.func151, Tryz.ntmps151
    go_wp2
    go_ret
    exact ⟨ret_int HE.out.symm, Below.refl _ _⟩
  obtain ⟨b, off, rfl, -⟩ := hA.byteAt (j := 0) (by omega)
  have hsl := fun W => slice_to (P := Tryz.prog) 59 (by kernel_rfl) 1 (fun _ => by kernel_rfl) (some ⟨b, off, none⟩) bs.length c (4 : Int) (by decide) (by omega) W
  have hcv := run_convert_bytes_arg (P := Tryz.prog) w 59 5 Tryz.underlying59 Tryz.underlying5 b off 4 c (natsI (bs.take 4)) (by simp [natsI]; omega) (fun i hi => by
    obtain ⟨b', off', hb', h⟩ := hA.byteAt (j := i) (by omega)
    cases hb'
    rw [h]
    simp [byteAt, natsI, List.getD, List.getElem?_take, hi]
    rw [List.getElem?_eq_getElem (by omega)]; rfl) 9 Tryz.underlying9
  have hS : (strOfNums (natsI (bs.take 4))).data.toList = bs.take 4 := by
    rw [strOfNums_data]; simp only [natsI, List.map_map]; rw [List.map_congr_left (g := id) (fun b _ => by simp), List.map_id]
  obtain ⟨S, hSS⟩ : ∃ S, S = strOfNums (natsI (bs.take 4)) := ⟨_, rfl⟩
  rw [← hSS] at hcv hS
  have hneq : (S.toList == (ByteArray.mk #[71, 76, 83, 49]).toList) = decide (bs.take 4 = [71, 76, 83, 49]) := by
    rw [ByteArray.toList_eq, ByteArray.toList_eq, hS]
    by_cases h : bs.take 4 = [71, 76, 83, 49] <;> simp [h]
  have hsl : ∀ W, (Instr.slice 59 (.slice (some ⟨b, off, none⟩) bs.length c) none (some (.int .i64 4)) none).run Tryz.prog W = .ok (.slice (some ⟨b, off, none⟩) 4 c) W := hsl
  have HA := Lib.hid hA
  have HNQ := Lib.hid hneq
  have HSL := Lib.hid hsl; have HCV := Lib.hid hcv
  clear hA hS hSS hneq hsl hcv
  have hsl := HSL.out; have hcv := HCV.out
  by_cases h3 : bs.take 4 = [71, 76, 83, 49]
  · have hd : decide (bs.take 4 = [71, 76, 83, 49]) = true := by simpa using h3
    have hst : (S.toList == [71, 76, 83, 49]) = true := by have h := HNQ.out; rw [hd] at h; simpa using h
    have hN := strN_bd bs
    have Hmul : Hid (Calls Tryz.prog 152 #[.slice (some ⟨b, off, none⟩) bs.length c] w fun e w' => e = .returned (.int .i64 (strN bs)) ∧ ∃ q, w' = w.drewN q) := streamNumber_any _ _ _ bs w HA.out rfl (by omega) (by omega)
    obtain ⟨N, hNN⟩ : ∃ N, N = strN bs := ⟨_, rfl⟩
    have HE0 : Hid (strE bs = if (bs.length : Int) ≠ 14 + 2 * N then 2 else if !sealedB zero8 bs then 27 else 0) := by
      unfold Hid strE; rw [if_neg h1, if_neg h2, if_neg (by simpa using h3), hNN]
    rw [← hNN] at hN Hmul
    clear h3 hd hNN
    by_cases h4 : (bs.length : Int) = 14 + 2 * N
    · have h5 : ((bs.length : Int) != 14 + 2 * N) = false := by simpa using h4
      have HL := Lib.hid h4
      have Hseal : Hid (∀ W, Below w.heap.size w W → Calls Tryz.prog 102 #[.agg #[.int .u8 0, .int .u8 0, .int .u8 0, .int .u8 0, .int .u8 0, .int .u8 0, .int .u8 0, .int .u8 0], .slice (some ⟨b, off, none⟩) bs.length c] W fun e w' => e = .returned (.bool (sealedB zero8 bs)) ∧ Below W.heap.size W w') := fun W hW =>
        isSealed_any 0 0 0 0 0 0 0 0 _ _ _ bs W (HA.out.below hW) rfl hc (by omega) hm zero8_byte
      have HE : Hid (strE bs = if !sealedB zero8 bs then 27 else 0) := by unfold Hid; rw [HE0.out, if_neg (by simpa using h4)]
      obtain ⟨sb, hsb⟩ : ∃ sb, sb = sealedB zero8 bs := ⟨_, rfl⟩
      rw [← hsb] at Hseal HE
      clear h4 hsb HE0
      cases sb
      all_goals
        go_enter Tryz.func151, Tryz.ntmps151
        go_wp2_with (first
          | (go_at_call 152; refine Hmul.out.mono ?_; rintro e w1 ⟨rfl, q, rfl⟩)
          | (go_at_call 102; refine (Hseal.out _ ?_).mono ?_; (exact below_drewN (Below.refl _ _) _); rintro e w1 ⟨rfl, hb1⟩))
        go_ret
        exact ⟨ret_int HE.out.symm, (below_drewN (Below.refl _ _) _).trans hb1⟩
    · have h5 : ((bs.length : Int) != 14 + 2 * N) = true := by simpa using h4
      have HE : Hid (strE bs = 2) := by unfold Hid; rw [HE0.out, if_pos h4]
      clear h4 HE0
      go_enter Tryz.func151, Tryz.ntmps151
      go_wp2_with (go_at_call 152; refine Hmul.out.mono ?_; rintro e w1 ⟨rfl, q, rfl⟩)
      go_ret
      exact ⟨ret_int HE.out.symm, below_drewN (Below.refl _ _) _⟩
  · have HE : Hid (strE bs = 1) := by unfold Hid strE; rw [if_neg h1, if_neg h2, if_pos h3]
    have hd : decide (bs.take 4 = [71, 76, 83, 49]) = false := by simpa using h3
    have hst : (S.toList == [71, 76, 83, 49]) = false := by have h := HNQ.out; rw [hd] at h; simpa using h
    clear h3 hd
    go_enter Tryz.func151, Tryz.ntmps151
    go_wp2
    go_ret
    exact ⟨ret_int HE.out.symm, Below.refl _ _⟩

/-- the samples of a stream -/
def upX (bs : List UInt8) (N : Nat) : List Nat := (List.range N).map fun i => fb (signI (byteAt bs (6 + i)) (byteAt bs (6 + N + i)))
theorem upX_length (bs : List UInt8) (N : Nat) : (upX bs N).length = N := by simp [upX]
theorem upX_get (bs : List UInt8) (N k : Nat) (h : k < (upX bs N).length) : (upX bs N)[k] = fb (signI (byteAt bs (6 + k)) (byteAt bs (6 + N + k))) := by simp [upX]
def unpN (bs : List UInt8) : Nat := (strN bs).toNat
def unpE (bs : List UInt8) : Int := if strE bs ≠ 0 then strE bs else sampsI (upX bs (unpN bs))
theorem strE_zero {bs : List UInt8} (h : strE bs = 0) : bs.length = 14 + 2 * unpN bs ∧ unpN bs ≤ 65535 ∧ strN bs = (unpN bs : Int) := by
  have hb := strN_bd bs
  unfold strE at h
  split at h
  · simp at h
  · split at h
    · simp at h
    · split at h
      · simp at h
      · split at h
        · simp at h
        · rename_i h4
          have h4 : (bs.length : Int) = 14 + 2 * strN bs := by simpa using h4
          unfold unpN
          omega
theorem byts_part {bs : List UInt8} {f h k : Nat} (hk : k < h - f) (hh : h ≤ bs.length) : ((byts bs).drop f |>.take (h - f))[k]? = some (.int .u8 (byteAt bs (f + k))) := by
  rw [List.getElem?_take, if_pos hk, List.getElem?_drop]
  simp only [byts, List.getElem?_map]
  rw [List.getElem?_eq_getElem (by omega)]
  simp [byteAt, List.getD, List.getElem?_eq_getElem (show f + k < bs.length by omega)]

set_option maxRecDepth 100000 in
set_option maxHeartbeats 1000000 in
theorem unpack_any (A : Option Addr) (n c : Nat) (bs : List UInt8) (w : World) (hA : Rd w A (byts bs)) (hn : n = bs.length) (hc : n ≤ c) (hm : bs.length ≤ 9223372036854775807) :
    Calls Tryz.prog 74 #[.slice A n c] w fun e w' => ∃ v, e = .returned (.tuple #[v, .int .i64 (unpE bs)]) ∧ (unpE bs = 0 → ∃ g, v = .slice (some ⟨g, 0, none⟩) (unpN bs) (unpN bs) ∧ Row w' g 37 (flts (upX bs (unpN bs))) ∧ w.heap.size ≤ g) ∧ (unpE bs ≠ 0 → v = .slice none 0 0) ∧ Below w.heap.size w w' := by
  subst hn
  have Hchk : Hid (Calls Tryz.prog 151 #[.slice A bs.length c] w fun e w' => e = .returned (.int .i64 (strE bs)) ∧ Below w.heap.size w w') := checkStream_any A _ c bs w hA rfl hc hm
  have HA := Lib.hid hA
  clear hA
  by_cases h0 : strE bs = 0
  · obtain ⟨hlen, hN, hsN⟩ := strE_zero h0
    have HE : Hid (unpE bs = sampsI (upX bs (unpN bs))) := by unfold Hid unpE; rw [if_neg (by simp [h0])]
    have HNL : Hid (∀ W, Below w.heap.size w W → Calls Tryz.prog 152 #[.slice A bs.length c] W fun e w' => e = .returned (.int .i64 (unpN bs : Int)) ∧ ∃ q, w' = W.drewN q) := fun W hW => by
      have h := streamNumber_any A bs.length c bs W (HA.out.below hW) rfl (by omega) (by omega)
      rw [hsN] at h; exact h
    obtain ⟨N, hNN⟩ : ∃ N, N = unpN bs := ⟨_, rfl⟩
    rw [← hNN] at HE HNL hN hlen ⊢
    rw [h0] at Hchk
    clear hsN hNN h0
    obtain ⟨b, off, rfl, -⟩ := HA.out.byteAt (j := 0) (by omega)
    obtain ⟨A1, hsl1, hR1, -⟩ := slice_mid (P := Tryz.prog) 59 (by kernel_rfl) (fun _ => by kernel_rfl) (some ⟨b, off, none⟩) bs.length c 6 (6 + N) (by omega) (by omega) hc (fun h => by cases h)
    obtain ⟨A2, hsl2, hR2, -⟩ := slice_mid (P := Tryz.prog) 59 (by kernel_rfl) (fun _ => by kernel_rfl) (some ⟨b, off, none⟩) bs.length c (6 + N) (6 + 2 * N) (by omega) (by omega) hc (fun h => by cases h)
    have k1 : 6 + N - 6 = N := by omega
    have k2 : 6 + 2 * N - (6 + N) = N := by omega
    rw [k1] at hR1; rw [k2] at hR2
    simp only [k1] at hsl1
    simp only [k2] at hsl2
    have hsl1 : ∀ W, (Instr.slice 59 (.slice (some ⟨b, off, none⟩) bs.length c) (some (.int .i64 6)) (some (.int .i64 (6 + (N : Int)))) none).run Tryz.prog W = .ok (.slice A1 N (c - 6)) W := hsl1
    have hsl2 : ∀ W, (Instr.slice 59 (.slice (some ⟨b, off, none⟩) bs.length c) (some (.int .i64 (6 + (N : Int)))) (some (.int .i64 (6 + 2 * (N : Int)))) none).run Tryz.prog W = .ok (.slice A2 N (c - (6 + N))) W := by
      have e : ((6 + 2 * N : Nat) : Int) = 6 + 2 * (N : Int) := by omega
      have e2 : ((6 + N : Nat) : Int) = 6 + (N : Int) := by omega
      rw [e, e2] at hsl2; exact hsl2
    have e1 : IntKind.i64.wrap (6 + (N : Int)) = 6 + (N : Int) := IntWalk.i64_in _ (by omega)
    have e2 : IntKind.i64.wrap (2 * (N : Int)) = 2 * (N : Int) := IntWalk.i64_in _ (by omega)
    have e3 : IntKind.i64.wrap (6 + 2 * (N : Int)) = 6 + 2 * (N : Int) := IntWalk.i64_in _ (by omega)
    have hmk := fun W : World => make1 (P := Tryz.prog) 38 37 (.float .f32 0) 4 Tryz.underlying38 info37 rfl N (by omega) (by omega) W
    have HR1 := Lib.hid hR1; have HR2 := Lib.hid hR2
    have HLEN := Lib.hid hlen
    clear hR1 hR2 k1 k2 hlen
    go_enter Tryz.func74, Tryz.ntmps74
    go_wp2_with fail
    refine Hchk.out.mono ?_
    rintro e w1 ⟨rfl, hb1⟩
    have HB1 := Lib.hid hb1
    clear hb1
    go_wp2_with (go_at_call 152; refine (HNL.out _ HB1.out).mono ?_; rintro e w2 ⟨rfl, q2, rfl⟩)
    go_quiet (fail)
    clear hsl1 hsl2 e1 e2 e3
    go_wp2
    refine genA (w0 := w) w1.heap.size 37 (List.replicate N (.float .f32 0)) (Row.new _ _ _) ((below_drewN HB1.out _).alloc HB1.out.size _) ?_
    intro W R0 RB
    have G0 := Lib.hid R0; have GB := Lib.hid RB
    clear R0 RB hmk
    go_loopw [32] (fun i wr => ∃ k : Nat, k ≤ N ∧ i = .int .i64 k ∧ Hid (Row wr w1.heap.size 37 (flts ((upX bs N).take k) ++ List.replicate (N - k) (.float .f32 0))) ∧ Hid (Below w.heap.size w wr)) (fun i _ => N - (intOf i).toNat)
    case atStart => exact ⟨0, Nat.zero_le _, rfl, by have := G0.out; show Row _ _ _ _; simpa [flts] using this, GB⟩
    case round =>
      obtain ⟨k, hk, rfl, g0, gb⟩ := hrel
      have z1 : Hid (w.heap.size ≤ w1.heap.size) := HB1.out.size
      by_cases hlt : k < N
      · obtain ⟨b1, o1, hA1, cx⟩ := HR1.out wr _ (HA.out.below gb.out) k _ (by have := byts_part (bs := bs) (f := 6) (h := 6 + N) (k := k) (by omega) (by have := HLEN.out; omega); rwa [show 6 + N - 6 = N by omega] at this)
        obtain ⟨b2, o2, hA2, cy⟩ := HR2.out wr _ (HA.out.below gb.out) k _ (by have := byts_part (bs := bs) (f := 6 + N) (h := 6 + N + N) (k := k) (by omega) (by have := HLEN.out; omega); rwa [show 6 + N + N - (6 + N) = N by omega] at this)
        subst hA1; subst hA2
        have hne1 : Hid (w1.heap.size ≠ b1) := by
          intro h; subst h
          obtain ⟨bq, oq, h1, h2⟩ := HR1.out w _ HA.out k _ (by have := byts_part (bs := bs) (f := 6) (h := 6 + N) (k := k) (by omega) (by have := HLEN.out; omega); rwa [show 6 + N - 6 = N by omega] at this)
          cases h1
          have h3 := World.block_lt_of_cell? w _ h2
          have h4 : w1.heap.size < w.heap.size := h3
          have := z1.out; omega
        have hne2 : Hid (w1.heap.size ≠ b2) := by
          intro h; subst h
          obtain ⟨bq, oq, h1, h2⟩ := HR2.out w _ HA.out k _ (by have := byts_part (bs := bs) (f := 6 + N) (h := 6 + N + N) (k := k) (by omega) (by have := HLEN.out; omega); rwa [show 6 + N + N - (6 + N) = N by omega] at this)
          cases h1
          have h3 := World.block_lt_of_cell? w _ h2
          have h4 : w1.heap.size < w.heap.size := h3
          have := z1.out; omega
        have hset := Lib.hid (part_setG (Value.float .f32) (upX bs N) (.float .f32 0) N k (by rw [upX_length]; exact hlt) (upX_length bs N).symm)
        have hget := Lib.hid (upX_get bs N k (by rw [upX_length]; exact hlt))
        have dx := byteAt_bd bs (6 + k)
        have dy := byteAt_bd bs (6 + N + k)
        obtain ⟨x, ex⟩ : ∃ x, x = byteAt bs (6 + k) := ⟨_, rfl⟩
        obtain ⟨y, ey⟩ : ∃ y, y = byteAt bs (6 + N + k) := ⟨_, rfl⟩
        rw [← ex] at cx dx hget; rw [← ey] at cy dy hget
        have Hc1 : Hid (Calls Tryz.prog 105 #[.int .u8 x, .int .u8 y] wr.drew fun e w' => e = .returned (.int .i64 (signI x y)) ∧ wr.drew = w') := signed_any x y wr.drew dx dy
        have hsb := signI_bd dx dy
        have Hc2 : Hid (Calls Tryz.prog 104 #[.int .i64 (signI x y)] wr.drew fun e w' => e = .returned (.float .f32 (fb (signI x y))) ∧ wr.drew = w') := sampleOf_any _ _ hsb
        obtain ⟨v0, hc0⟩ : ∃ v0, wr.cell? ⟨w1.heap.size, k, none⟩ = some v0 := ⟨_, g0.out.cellAt (by simp [flts, upX_length]; omega)⟩
        have hf0 := g0.out.free k
        clear dx dy hsb ex ey
        obtain ⟨sg, hsg⟩ : ∃ sg, sg = signI x y := ⟨_, rfl⟩
        rw [← hsg] at Hc1 Hc2 hget
        clear hsg
        have h15 : (k : Int) < (N : Int) := by omega
        have h16 : (0 : Int) ≤ (k : Int) := by omega
        have S1 : Hid (wr.cell? ⟨b1, o1 + k, none⟩ = some (.int .u8 x) ∧ wr.cell? ⟨b2, o2 + k, none⟩ = some (.int .u8 y)) := ⟨cx, cy⟩
        have hStore : ∀ v, Hid ((wr.drew.setCell ⟨w1.heap.size, k, none⟩ v).cell? ⟨b1, o1 + k, none⟩ = some (.int .u8 x) ∧ (wr.drew.setCell ⟨w1.heap.size, k, none⟩ v).cell? ⟨b2, o2 + k, none⟩ = some (.int .u8 y)) := fun v => ⟨(World.cell?_setCell_far wr.drew _ _ v hne1.out).trans cx, (World.cell?_setCell_far wr.drew _ _ v hne2.out).trans cy⟩
        have HStore := Lib.hid hStore
        clear hStore
        go_wp2
        go_region_held3 (fun w' => w'.cell? ⟨b1, o1 + k, none⟩ = some (.int .u8 x) ∧ w'.cell? ⟨b2, o2 + k, none⟩ = some (.int .u8 y)) (first | assumption | exact S1.out | exact (HStore.out _).out)
          (first | (go_at_call 105; refine Hc1.out.mono ?_; rintro e w' ⟨rfl, rfl⟩) | (go_at_call 104; refine Hc2.out.mono ?_; rintro e w' ⟨rfl, rfl⟩))
        all_goals go_wp2
        all_goals go_roundw
        all_goals first | (exact ⟨k + 1, by omega, by go_num, by have h := g0.out.set k (.float .f32 (fb sg)); rw [← hget.out] at h; simp only [flts] at h ⊢; rw [hset.out] at h; rw [← hget.out]; exact h, (gb.out.setCell z1.out _).drew⟩) | (simp [intOf]; omega)
      · obtain rfl : k = N := by omega
        have hrow : Row wr w1.heap.size 37 (flts (upX bs k)) := by
          have h := g0.out
          rw [Nat.sub_self, List.replicate_zero, List.append_nil, List.take_of_length_le (by rw [upX_length]; exact Nat.le_refl _)] at h
          exact h
        have Hrow := Lib.hid hrow
        have HCS : Hid (Calls Tryz.prog 26 #[.slice (some ⟨w1.heap.size, 0, none⟩) k k] wr fun e w' => e = .returned (.int .i64 (unpE bs)) ∧ Below wr.heap.size wr w') := by
          unfold Hid; rw [HE.out]; exact checkSamples_any _ _ _ (upX bs k) wr (Rd.row hrow) (upX_length bs k).symm
        clear hrow
        obtain ⟨er, her⟩ : ∃ er, er = unpE bs := ⟨_, rfl⟩
        rw [← her] at HCS
        have HER := Lib.hid her
        clear her
        by_cases hz : er = 0
        · subst hz
          go_wp2_with fail
          refine HCS.out.mono ?_
          rintro e w3 ⟨rfl, hb3⟩
          have HR3 := Lib.hid (Hrow.out.old hb3)
          go_wp2
          go_ret2
          exact ⟨.slice (some ⟨w1.heap.size, 0, none⟩) k k, by rw [← HER.out]; exact rfl, fun _ => ⟨_, rfl, HR3.out, z1.out⟩, fun h => absurd HER.out.symm h, gb.out.trans (hb3.mono gb.out.size)⟩
        · have hz2 : (er != 0) = true := by simpa using hz
          have HZ := Lib.hid hz
          clear hz
          go_wp2_with fail
          refine HCS.out.mono ?_
          rintro e w3 ⟨rfl, hb3⟩
          go_wp2
          go_ret2
          exact ⟨.slice none 0 0, by rw [← HER.out]; exact rfl, fun h => absurd (HER.out.trans h) HZ.out, fun _ => rfl, gb.out.trans (hb3.mono gb.out.size)⟩
  · have hz : (strE bs != 0) = true := by simpa using h0
    have HE : Hid (unpE bs = strE bs) := by unfold Hid unpE; rw [if_pos h0]
    have HZ := Lib.hid h0
    obtain ⟨er, her⟩ : ∃ er, er = strE bs := ⟨_, rfl⟩
    rw [← her] at Hchk hz HE HZ
    clear her h0
    go_enter Tryz.func74, Tryz.ntmps74
    go_wp2_with fail
    refine Hchk.out.mono ?_
    rintro e w1 ⟨rfl, hb1⟩
    go_wp2
    go_ret2
    exact ⟨.slice none 0 0, by rw [HE.out]; exact rfl, fun h => absurd (HE.out.symm.trans h) HZ.out, fun _ => rfl, hb1⟩
end Go.Proofs.YtjgofnbfpoephaaGreatDoor
