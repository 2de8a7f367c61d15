import Derived.Test.YtdglifjhkjdogaaGreatDoorZ3
import Derived.Test.YtdglifjhkjdogaaGreatDoorM11
import Derived.Test.YtdglifjhkjdogaaGreatDoorM18
/- Contracts: CheckWord, CheckDot and Keyed of the reference. -/
namespace Go.Proofs.YtdglifjhkjdogaaGreatDoor
set_option linter.all false
open Go.RowKit Go.Fl
set_option linter.unusedVariables false
set_option linter.unusedSimpArgs false

theorem checkDot_any (n : Int) (w : World) : Calls Tryz.prog 20 #[.int .i64 n] w fun e w' => e = .returned (.int .i64 (whenI (rangeB n 1 16) 3)) ∧ w = w' := by
  go_enter Tryz.func20, Tryz.ntmps20
  go_wp2_with (go_at_call 65; refine (checkRange_any _ _ _ _).mono ?_; rintro e w' ⟨rfl, rfl⟩)
  go_ret
  exact ⟨rfl, rfl⟩

set_option maxRecDepth 100000 in
set_option maxHeartbeats 1000000 in
theorem checkWordR_any (s : ByteArray) (w : World) : Calls Tryz.prog 19 #[.string s] w fun e w' => e = .returned (.int .i64 (wordI s.data.toList)) ∧ Below w.heap.size w w' := by
  have hl : s.data.toList.length = s.size := by simp
  by_cases h0 : s.size = 0
  · have he : s = ByteArray.empty := by
      obtain ⟨⟨l⟩⟩ := s
      cases l with
      | nil => rfl
      | cons a l => simp [ByteArray.size] at h0
    subst he
    clear h0 hl
    go_enter Tryz.func19, Tryz.ntmps19
    go_wp2_with (first | (go_at_call 63; refine (when_any _ _ _).mono ?_; rintro e w1 ⟨rfl, rfl⟩) | (go_at_call 12; refine (first_any _ _ _ [whenI true 12, whenI false 26] _ ?_ rfl (by simp)).mono ?_; (exact Rd.new _ _ _ _ (by simp)); rintro e w1 ⟨rfl, rfl⟩))
    go_ret
    exact ⟨rfl, (Below.refl _ _).alloc (Nat.le_refl _) _⟩
  · have hp : 0 < s.size := by omega
    have hne := isEmpty_eq s hp
    have hz : ((s.size : Int) == 0) = false := by rw [beq_eq_false_iff_ne]; omega
    by_cases h1 : 4 < s.size
    · have HW := Lib.hid (wordI_long (l := s.data.toList) (by rw [hl]; exact h1))
      have h1b : decide ((4 : Int) < (s.size : Int)) = true := by simp; omega
      clear hl hne h0 hp
      go_enter Tryz.func19, Tryz.ntmps19
      go_wp2_with (first | (go_at_call 63; refine (when_any _ _ _).mono ?_; rintro e w1 ⟨rfl, rfl⟩) | (go_at_call 12; refine (first_any _ _ _ [whenI false 12, whenI true 26] _ ?_ rfl (by simp)).mono ?_; (exact Rd.new _ _ _ _ (by simp)); rintro e w1 ⟨rfl, rfl⟩))
      go_ret
      exact ⟨ret_int (by rw [HW.out]; rfl), (Below.refl _ _).alloc (Nat.le_refl _) _⟩
    · have h2 : s.size ≤ 4 := by omega
      have HW := Lib.hid (wordI_short hne (by rw [hl]; exact h2))
      have h1b : decide ((4 : Int) < (s.size : Int)) = false := by simp; omega
      clear h1 hne hl
      go_enter Tryz.func19, Tryz.ntmps19
      go_wp2_with (first | (go_at_call 63; refine (when_any _ _ _).mono ?_; rintro e w1 ⟨rfl, rfl⟩) | (go_at_call 12; refine (first_any _ _ _ [whenI false 12, whenI false 26] _ ?_ rfl (by simp)).mono ?_; (exact Rd.new _ _ _ _ (by simp)); rintro e w1 ⟨rfl, rfl⟩))
      go_loopg [4] s.size (fun g i wr => ∃ k : Nat, k ≤ s.size ∧ i = .int .i64 k ∧ g = s.size - k ∧ Hid ((s.data.toList.take k).all (fun c => capB (u8I c)) = true) ∧ Hid (Below w.heap.size w wr))
      case atStart => exact ⟨0, Nat.zero_le _, rfl, rfl, rfl, (Below.refl _ _).alloc (Nat.le_refl _) _⟩
      case round =>
        obtain ⟨k, hk, rfl, hg, H, HB⟩ := hrel
        subst hg
        by_cases hlt : k < s.size
        · have hall := Lib.hid (take_all_succ s k hlt (fun c => capB (u8I c)))
          have hbad := Lib.hid (all_false_of s k hlt (fun c => capB (u8I c)))
          by_cases d1 : (s[k].toNat : Int) < 65
          · have hc : capB (s[k].toNat : Int) = false := by unfold capB; rw [decide_eq_false (by omega), Bool.false_and]
            have Hc := Lib.hid hc; clear hc
            have b1 : decide ((s[k].toNat : Int) < 65) = true := decide_eq_true d1
            go_wp2
            go_ret
            exact ⟨ret_int (by rw [HW.out, hbad.out (by unfold u8I; exact Hc.out)]; rfl), HB.out⟩
          · have b1 : decide ((s[k].toNat : Int) < 65) = false := decide_eq_false d1
            by_cases d2 : (90 : Int) < (s[k].toNat : Int)
            · have hc : capB (s[k].toNat : Int) = false := by unfold capB; rw [decide_eq_false (by omega : ¬ (s[k].toNat : Int) ≤ 90), Bool.and_false]
              have Hc := Lib.hid hc; clear hc
              have b2 : decide ((90 : Int) < (s[k].toNat : Int)) = true := decide_eq_true d2
              go_wp2
              go_ret
              exact ⟨ret_int (by rw [HW.out, hbad.out (by unfold u8I; exact Hc.out)]; rfl), HB.out⟩
            · have hc : capB (s[k].toNat : Int) = true := by unfold capB; rw [decide_eq_true (by omega), decide_eq_true (by omega)]; rfl
              have Hc := Lib.hid hc; clear hc
              have b2 : decide ((90 : Int) < (s[k].toNat : Int)) = false := decide_eq_false d2
              go_wp2
              go_roundg (s.size - (k + 1))
              case measure => omega
              case rel => exact ⟨k + 1, by omega, by go_num, rfl, by show _ = true; rw [hall.out, H.out]; unfold u8I; rw [Hc.out]; rfl, HB⟩
        · go_wp2
          go_ret
          exact ⟨ret_int (by have := H.out; rw [List.take_of_length_le (by simp; omega)] at this; rw [HW.out, this]; rfl), HB.out⟩

/-- the samples of the first elements of a code -/
theorem letP_code (d k : Nat) (j : Nat) (hj : j < (codeB k).length) : letP d (codeL k) (j + 1) = letP d (codeL k) j ++ ((if j = 0 then [] else List.replicate d 0) ++ List.replicate (if (codeB k)[j] then 3 * d else d) one32) := by
  have hl : (codeB k).length = (codeL k).length := by unfold codeB; rw [List.length_map]
  have hg : (codeL k).getD j 0 = (codeL k)[j]'(by omega) := by rw [List.getD_eq_getElem?_getD, List.getElem?_eq_getElem (by omega)]; rfl
  have hb : (codeB k)[j] = ((codeL k)[j]'(by omega) == 49) := by simp [codeB]
  rw [letP, hg, hb]
  unfold pieceK
  congr 2
  by_cases h : (codeL k)[j]'(by omega) = 49
  · rw [h]; rfl
  · have h2 : ¬ ((codeL k)[j]'(by omega)).toNat = 49 := fun e => h (UInt8.toNat_inj.1 e)
    have h3 : ((codeL k)[j]'(by omega) == 49) = false := by simpa using h
    rw [if_neg h2, h3]; rfl

/-- what Keyed holds on its way: samples of its own -/
def KyI (w : World) (xs : List Nat) (v : Value) (W : World) : Prop := W.ownsRow w.heap.size 76 1 v xs.length (flts xs) ∧ Below w.heap.size w W
theorem KyI.step {w W W' : World} {xs ys : List Nat} {v v' : Value} (h : KyI w xs v W) (ho : W'.ownsRow w.heap.size 76 1 v' ys.length (flts ys)) (hs : Step W W' v v') : KyI w ys v' W' :=
  ⟨ho, h.2.grown hs.1 h.2.size (fun j hj => (h.1.lt j hj).1)⟩
theorem KyI.below {w W W' : World} {xs : List Nat} {v : Value} (h : KyI w xs v W) (hb : Below W.heap.size W W') : KyI w xs v W' := ⟨owns_below h.1 hb, h.2.trans (hb.mono h.2.size)⟩
/-- the code lies in a block of its own -/
def CdI (cs : List Bool) (v u : Value) (W : World) : Prop := ∃ B, W.ownsRow B 4 1 u cs.length (bools cs) ∧ (u.ownBlock = none ∨ u.ownBlock ≠ v.ownBlock)
theorem CdI.step {cs : List Bool} {v v' u : Value} {W W' : World} (h : CdI cs v u W) (hs : Step W W' v v') : CdI cs v' u W' := by
  obtain ⟨B, h1, h2⟩ := h
  refine ⟨B, h1.kept hs.1 h2, ?_⟩
  rcases h2 with h2 | h2
  · exact .inl h2
  · rcases hs.2 with e | ⟨m, hm, hle⟩
    · rw [e]; exact .inr h2
    · cases hu : u.ownBlock with
      | none => exact .inl rfl
      | some k =>
        refine .inr ?_
        rw [hm]
        intro e
        cases e
        have := (h1.lt _ hu).2
        omega

set_option maxRecDepth 100000 in
set_option maxHeartbeats 2000000 in
theorem keyedR_ok (s : ByteArray) (d : Nat) (w : World) (hd : 1 ≤ d) (hd2 : d ≤ 16) (hw : wordI s.data.toList = 0) :
    Calls Tryz.prog 21 #[.string s, .int .i64 d] w fun e w' => ∃ v, e = .returned v ∧ w'.ownsRow w.heap.size 76 1 v (keyedL d s.data.toList).length (flts (keyedL d s.data.toList)) ∧ Below w.heap.size w w' := by
  obtain ⟨hc0, hc1, hc2⟩ := caps_of hw
  have HC := Lib.hid hc2
  have hsz : s.size ≤ 4 := by simpa using hc1
  have h3 : ((3 : Int) * (d : Int)).toNat = 3 * d := by omega
  have h7 : ((7 : Int) * (d : Int)).toNat = 7 * d := by omega
  have h1 : ((d : Int)).toNat = d := by omega
  have H3 := Lib.hid h3; have H7 := Lib.hid h7; have H1 := Lib.hid h1
  clear hw hc0 hc1 hc2 h3 h7 h1
  go_enter Tryz.func21, Tryz.ntmps21
  go_wp2_with fail
  go_loopg [5, 6] s.size (fun g u i wr => ∃ p : Nat, p + g = s.size ∧ i = .int .i64 p ∧ Hid (KyI w (keyP d s.data.toList p) u wr))
  case atStart => exact ⟨0, by omega, rfl, World.ownsRow_nil _ _ _ _, Below.refl _ _⟩
  case round =>
    obtain ⟨p, hp, rfl, HK⟩ := hrel
    by_cases hlt : p < s.size
    · have hcap := HC.out s[p] (by exact Array.mem_toList_iff.2 (Array.getElem_mem (xs := s.data) hlt))
      obtain ⟨k, hk⟩ : ∃ k, s[p].toNat = 65 + k := ⟨s[p].toNat - 65, by omega⟩
      have hk26 : k < 26 := by omega
      have hkI : (s[p].toNat : Int) - 65 = (k : Int) := by omega
      have hget : s.data.toList.getD p 0 = s[p] := by rw [List.getD_eq_getElem?_getD, List.getElem?_eq_getElem (by simpa using hlt)]; rfl
      have hstep : keyP d s.data.toList (p + 1) = keyP d s.data.toList p ++ ((if p = 0 then [] else List.replicate (3 * d) 0) ++ letS d (codeL k)) := by rw [keyP, hget, hk, Nat.add_sub_cancel_left]
      have Hstep := Lib.hid hstep
      have hle := keyP_le d s.data.toList p (by simpa using by omega) HC.out
      have hlen : (keyP d s.data.toList p).length ≤ 50000 := by
        have : p * (35 * d) ≤ 4 * (35 * 16) := Nat.mul_le_mul (by omega) (by omega)
        omega
      have Hlen := Lib.hid hlen
      obtain ⟨ys, hys⟩ : ∃ ys, ys = keyP d s.data.toList p ++ (if p = 0 then [] else List.replicate (3 * d) 0) := ⟨_, rfl⟩
      have hstep2 : keyP d s.data.toList (p + 1) = ys ++ letS d (codeL k) := by rw [hstep, hys, List.append_assoc]
      have Hstep2 := Lib.hid hstep2
      have hylen : ys.length ≤ 60000 := by
        rw [hys, List.length_append]
        split
        · simp; omega
        · simp; omega
      have Hylen := Lib.hid hylen
      have Hys := Lib.hid hys
      have HC8 := Lib.hid (codeB_len k hk26)
      have hwk : IntKind.i64.wrap ((s[p].toNat : Int) - 65) = (k : Int) := by rw [hkI]; exact IntWalk.i64_in _ (by omega)
      clear hcap hget hstep hstep2 hle hlen hylen hys
      go_upto_if 16 with fail
      go_cut [5] from 16 to 20 (fun u wx => KyI w ys u wx)
      case first =>
        clear hkI hk hwk hk26
        by_cases hp0 : p = 0
        · have hy : Hid (ys = keyP d s.data.toList p) := by unfold Hid; rw [Hys.out, if_pos hp0, List.append_nil]
          have hp0c : ¬ 0 < p := by omega
          clear hp0
          go_wp2_with fail
          go_meet
          exact (by rw [hy.out]; exact HK.out)
        · have hy : Hid (ys = keyP d s.data.toList p ++ List.replicate (3 * d) 0) := by unfold Hid; rw [Hys.out, if_neg hp0]
          have hp0c : 0 < p := by omega
          clear hp0
          go_wp2_with (go_at_call 79; refine (hold_step w.heap.size _ (keyP d s.data.toList p) 0 (3 * (d : Int)) _ HK.out.1 HK.out.2.size (by omega) (by omega) (by have := Hlen.out; omega)).mono ?_; rintro e w2 ⟨v2, rfl, ho2, hs2⟩; have HK2 := Lib.hid (HK.out.step ho2 hs2); clear ho2 hs2)
          go_meet
          rw [hy.out, ← H3.out]
          exact HK2.out
      case rest =>
        obtain ⟨W4, hW4⟩ : ∃ W4 : World, W4 = wc := ⟨_, rfl⟩
        subst hW4
        have HK4 := Lib.hid hcut
        clear hcut HK
        have wk1 : IntKind.i64.wrap (65 + (k : Int) - 65) = (k : Int) := by rw [show 65 + (k : Int) - 65 = k by omega]; exact IntWalk.i64_in _ (by omega)
        clear hkI hwk
        go_wp2_with (go_at_call 80; refine (codeR_any k hk26 _).mono ?_; rintro e w5 ⟨v5, rfl, ho5, hb5⟩)
        obtain ⟨X, xc, rfl, -⟩ := owned_slice ho5
        have HC5 : Hid (CdI (codeB k) u5 (.slice X (codeB k).length xc) w5) := ⟨_, ho5, by
          cases hu : (Value.slice X (codeB k).length xc).ownBlock with
          | none => exact .inl rfl
          | some b => exact .inr (fun e => by have h1 := (ho5.lt _ hu).1; have h2 := (HK4.out.1.lt b e.symm).2; omega)⟩
        have HK5 := Lib.hid (HK4.out.below hb5)
        clear ho5 hb5 HK4
        have hcl : (codeL k).length = (codeB k).length := by unfold codeB; rw [List.length_map]
        have Hcl := Lib.hid hcl
        clear hcl
        obtain ⟨f, rfl⟩ : ∃ f, gk = f + 1 := ⟨gk - 1, by omega⟩
        go_loopg [5, 8] (codeB k).length (fun g u j wx => ∃ q : Nat, q + g = (codeB k).length ∧ j = .int .i64 q ∧ Hid (KyI w (ys ++ letP d (codeL k) q) u wx) ∧ Hid (CdI (codeB k) u (.slice X (codeB k).length xc) wx))
        case atStart => exact ⟨0, by omega, rfl, (by show KyI _ _ _ _; rw [letP, List.append_nil]; exact HK5.out), HC5⟩
        case round =>
          obtain ⟨q, hq, rfl, HK, HC6⟩ := hrel
          clear HK5 HC5
          by_cases hql : q < (codeB k).length
          · have hq9 : q ≤ 8 := by have := HC8.out; omega
            have hle := letP_le d (codeL k) q
            have hq8 : q * (4 * d) ≤ 8 * 64 := Nat.mul_le_mul (by have := HC8.out; omega) (by omega)
            have hlq : (ys ++ letP d (codeL k) q).length ≤ 70000 := by rw [List.length_append]; have := Hylen.out; omega
            have Hlq := Lib.hid hlq
            have hst := Lib.hid (letP_code d k q hql)
            obtain ⟨zs, hzs⟩ : ∃ zs, zs = (ys ++ letP d (codeL k) q) ++ (if q = 0 then [] else List.replicate d 0) := ⟨_, rfl⟩
            obtain ⟨bq, hbq⟩ : ∃ bq, bq = (codeB k)[q] := ⟨_, rfl⟩
            rw [← hbq] at hst
            have hst2 : ys ++ letP d (codeL k) (q + 1) = zs ++ List.replicate (if bq then 3 * d else d) one32 := by
              rw [hst.out, hzs]; simp only [List.append_assoc]
            have Hst2 := Lib.hid hst2
            have Hzs := Lib.hid hzs
            have hzl : zs.length ≤ 80000 := by
              rw [hzs, List.length_append]
              split
              · simp only [List.length_nil]; omega
              · simp only [List.length_replicate]; omega
            have Hzl := Lib.hid hzl
            have Hbq := Lib.hid hbq
            clear hle hq8 hlq hst hzs hst2 hzl hbq
            go_upto_if 34 with fail
            go_cut [5] from 34 to 37 (fun u wx => KyI w zs u wx ∧ CdI (codeB k) u (.slice X (codeB k).length xc) wx)
            case first =>
              by_cases hq0 : q = 0
              · have hy : Hid (zs = ys ++ letP d (codeL k) q) := by unfold Hid; rw [Hzs.out, if_pos hq0, List.append_nil]
                have hq0c : ¬ 0 < q := by omega
                clear hq0
                go_wp2_with fail
                go_meet
                exact ⟨by rw [hy.out]; exact HK.out, HC6.out⟩
              · have hy : Hid (zs = ys ++ letP d (codeL k) q ++ List.replicate d 0) := by unfold Hid; rw [Hzs.out, if_neg hq0]
                have hq0c : 0 < q := by omega
                clear hq0
                go_wp2_with (go_at_call 79; refine (hold_step w.heap.size _ (ys ++ letP d (codeL k) q) 0 (d : Int) _ HK.out.1 HK.out.2.size (by omega) (by omega) (by have := Hlq.out; omega)).mono ?_; rintro e w2 ⟨v2, rfl, ho2, hs2⟩; have HK2 := Lib.hid (HK.out.step ho2 hs2); have HC7 := Lib.hid (HC6.out.step hs2); clear ho2 hs2)
                go_meet
                exact ⟨by rw [hy.out]; have h := HK2.out; rw [H1.out] at h; exact h, HC7.out⟩
            case rest =>
              obtain ⟨hk8, hc8⟩ := hcut
              have HK8 := Lib.hid hk8
              have HC9 := Lib.hid hc8
              obtain ⟨B, ho, -⟩ := hc8
              obtain ⟨b1, o1, hX1, hc1⟩ := Rd.boolK (owned_rd ho) hql
              subst hX1
              rw [← Hbq.out] at hc1
              clear hk8 ho
              obtain ⟨W8, hW8⟩ : ∃ W8 : World, W8 = wc := ⟨_, rfl⟩
              subst hW8
              cases bq
              · go_wp2_with (go_at_call 79; refine (hold_step w.heap.size _ zs one32 (d : Int) _ HK8.out.1 HK8.out.2.size (by omega) (by omega) (by have := Hzl.out; omega)).mono ?_; rintro e w2 ⟨v2, rfl, ho2, hs2⟩; have HK2 := Lib.hid (HK8.out.step ho2 hs2); have HC7 := Lib.hid (HC9.out.step hs2); clear ho2 hs2)
                go_roundg ((codeB k).length - (q + 1))
                case measure => omega
                case rel => exact ⟨q + 1, by omega, by go_num, (by show KyI _ _ _ _; have h := HK2.out; rw [H1.out] at h; rw [Hst2.out]; exact h), HC7⟩
              · go_wp2_with (go_at_call 79; refine (hold_step w.heap.size _ zs one32 (3 * (d : Int)) _ HK8.out.1 HK8.out.2.size (by omega) (by omega) (by have := Hzl.out; omega)).mono ?_; rintro e w2 ⟨v2, rfl, ho2, hs2⟩; have HK2 := Lib.hid (HK8.out.step ho2 hs2); have HC7 := Lib.hid (HC9.out.step hs2); clear ho2 hs2)
                go_roundg ((codeB k).length - (q + 1))
                case measure => omega
                case rel => exact ⟨q + 1, by omega, by go_num, (by show KyI _ _ _ _; have h := HK2.out; rw [H3.out] at h; rw [Hst2.out]; exact h), HC7⟩
          · obtain rfl : q = (codeB k).length := by omega
            go_wp2
            go_roundg f
            case measure => omega
            case rel => exact ⟨p + 1, by omega, by go_num, (by show KyI _ _ _ _; rw [Hstep2.out]; unfold letS; rw [Hcl.out]; exact HK.out)⟩
    · obtain rfl : p = s.size := by omega
      go_wp2_with (go_at_call 79; refine (hold_step w.heap.size _ (keyP d s.data.toList s.size) 0 (7 * (d : Int)) _ HK.out.1 HK.out.2.size (by omega) (by omega) (by have := keyP_le d s.data.toList s.size (by simp) HC.out; have : s.size * (35 * d) ≤ 4 * (35 * 16) := Nat.mul_le_mul (by omega) (by omega); omega)).mono ?_; rintro e w2 ⟨v2, rfl, ho2, hs2⟩; have HK2 := Lib.hid (HK.out.step ho2 hs2); clear ho2 hs2)
      go_ret
      have hkk : keyedL d s.data.toList = keyP d s.data.toList s.size ++ List.replicate (7 * d) 0 := by unfold keyedL; rw [show s.data.toList.length = s.size by simp]
      exact ⟨_, rfl, by rw [hkk, ← H7.out]; exact HK2.out.1, HK2.out.2⟩
end Go.Proofs.YtdglifjhkjdogaaGreatDoor
