import Derived.Test.YtoclnlimnjnbkaaGreatDoorM39
namespace Go.Proofs.YtoclnlimnjnbkaaGreatDoor
set_option linter.all false
open Go.RowKit Go.Fl
def noMark (bs : List UInt8) : List UInt8 := bs.map fun b => if b = 201 then 0 else b
theorem noMark_ne (bs : List UInt8) : ∀ b ∈ noMark bs, b.toNat ≠ 201 := by
  intro b hb
  obtain ⟨x, _, rfl⟩ := List.mem_map.1 hb
  split
  · decide
  · rename_i h; intro e; exact h (UInt8.toNat_inj.1 e)
theorem noMark_len (bs : List UInt8) : (noMark bs).length = bs.length := by simp [noMark]
theorem noMark_take {bs : List UInt8} {i : Nat} (h : i < bs.length) : byts ((noMark bs).take (i + 1)) = byts ((noMark bs).take i) ++ [.int .u8 (if byteAt bs i = 201 then 0 else byteAt bs i)] := by
  rw [List.take_succ_eq_append_getElem (by rw [noMark_len]; exact h)]
  unfold byts
  rw [List.map_append]
  congr 1
  show [Value.int .u8 (((noMark bs)[i]'(by rw [noMark_len]; exact h)).toNat : Int)] = _
  unfold noMark byteAt
  rw [List.getElem_map, List.getD_eq_getElem?_getD, List.getElem?_eq_getElem h]
  congr 2
  simp only [Option.getD_some]
  by_cases e : bs[i] = 201
  · rw [if_pos e, e]; rfl
  · rw [if_neg e, if_neg]
    intro e2
    exact e (UInt8.toNat_inj.1 (by show bs[i].toNat = 201; omega))
set_option maxRecDepth 100000 in
set_option maxHeartbeats 16000000 in
theorem found_walk (haw : AwakeOk) (k0 k1 k2 k3 k4 k5 k6 k7 : Int) (A : Option Addr) (lc : Nat) (LL : List Ra) (B : Option Addr) (mc : Nat) (ot0 : List UInt8) (wh8 at8 by8 : Nat) (w : World) (haW : Aw w) (hA : Rd w A (LL.flatMap raC)) (hB : Rd w B (byts ot0)) (hlb : LL.length ≤ 9223372036854775807) (hob : ot0.length ≤ 9223372036854775807) (h1 : 1 ≤ LL.length) (h5 : LL.length ≤ 5) (ho20 : ot0.length ≤ 20) (hLL : ∀ t ∈ LL, (-32768 ≤ t.1 ∧ t.1 ≤ 32767) ∧ (-32768 ≤ t.2.1 ∧ t.2.1 ≤ 32767) ∧ (-32768 ≤ t.2.2 ∧ t.2.2 ≤ 32767))
    (hkeys : ∀ j (h : j < 8), isByte ([k0, k1, k2, k3, k4, k5, k6, k7][j])) (hwh : wh8 < 256) (hat : at8 < 256) (hby : by8 < 256) : Calls Tryz.prog 4 #[.agg #[.int .u8 k0, .int .u8 k1, .int .u8 k2, .int .u8 k3, .int .u8 k4, .int .u8 k5, .int .u8 k6, .int .u8 k7], .slice A LL.length lc, .agg #[.slice B ot0.length mc, .int .u8 (wh8 : Int), .int .u8 (at8 : Int), .int .u8 (by8 : Int)]] w fun e w' => e = .returned (.bool true) ∧ Below w.heap.size w w' := by
  have HS0 := Lib.hid (FoS.new (Kv := [.int .u8 k0, .int .u8 k1, .int .u8 k2, .int .u8 k3, .int .u8 k4, .int .u8 k5, .int .u8 k6, .int .u8 k7]) (Nv := [.slice B ot0.length mc, .int .u8 (wh8 : Int), .int .u8 (at8 : Int), .int .u8 (by8 : Int)]) haW hA hB)
  have e1 : decide ((LL.length : Int) < 1) = false := decide_eq_false (by omega)
  have e2 : decide ((5 : Int) < (LL.length : Int)) = false := decide_eq_false (by omega)
  have e3 : decide ((20 : Int) < (ot0.length : Int)) = false := decide_eq_false (by omega)
  have HLL := Lib.hid hLL; have HKEYS := Lib.hid hkeys
  clear haW hA hB hLL hkeys
  go_enter Tryz.func4, Tryz.ntmps4
  go_upto_region 1 with fail
  refine genR (FoS w [.int .u8 k0, .int .u8 k1, .int .u8 k2, .int .u8 k3, .int .u8 k4, .int .u8 k5, .int .u8 k6, .int .u8 k7] [.slice B ot0.length mc, .int .u8 (wh8 : Int), .int .u8 (at8 : Int), .int .u8 (by8 : Int)] A LL B ot0) HS0.out ?_
  clear HS0
  intro W1 s1
  have HS1 := Lib.hid s1
  clear s1
  have c0 := HS1.out.2.1.cell 0
  simp only [List.getElem?_cons_zero] at c0
  go_cut [65] from 52 to 66 (fun s65 wx => s65 = .bool false ∧ wx = W1)
  case first => as_aux_lemma =>
    go_wp2_with fail
    go_meet
    exact ⟨rfl, rfl⟩
  case rest =>
  obtain ⟨rfl, rfl⟩ := hcut
  obtain ⟨WB, hWB⟩ : ∃ WB : World, WB = wc := ⟨_, rfl⟩
  subst hWB
  go_wp2_with fail
  clear c0 e1 e2 e3
  obtain ⟨M1, hM1⟩ : ∃ M1, M1 = WB.heap.size := ⟨_, rfl⟩
  have HM1 := Lib.hid hM1
  clear hM1
  obtain ⟨iu, hiu, hiu0, hiu1, hiu2⟩ := info_parts info5
  have hst0 : WB.ownsRow M1 5 1 (.slice none 0 0) 0 (byts ((noMark ot0).take 0)) := ⟨by simp [byts], .inl ⟨rfl, rfl⟩⟩
  have HST0 := Lib.hid hst0
  clear hst0
  go_loopg [7, 70] ot0.length (fun g s7 s70 wr => ∃ i : Nat, i + g = ot0.length ∧ s70 = .int .i64 i ∧ Hid (wr.ownsRow M1 5 1 s7 i (byts ((noMark ot0).take i))) ∧ Hid (Below M1 WB wr))
  case atStart => exact ⟨0, by omega, rfl, HST0.out, Below.refl _ _⟩
  case round =>
    clear HST0
    obtain ⟨i, hi, rfl, hown, hb⟩ := hrel
    have hsz := hb.out.size
    by_cases hlt : i < ot0.length
    · have HS2 := Lib.hid (HS1.out.keep (HM1.out ▸ hb.out))
      obtain ⟨b, off, rfl, hc⟩ := HS2.out.2.2.2.1.byteAt hlt
      obtain ⟨x, hx⟩ : ∃ x, x = byteAt ot0 i := ⟨_, rfl⟩
      rw [← hx] at hc
      have hxb := byteAt_bd ot0 i
      rw [← hx] at hxb
      have HT := Lib.hid (noMark_take hlt)
      have HX := Lib.hid hx
      clear hx
      have hi1 : (i : Int) < (ot0.length : Int) := by omega
      have hmz : M1 ≤ wr.heap.size := by have := HM1.out; omega
      by_cases h201 : x = 201
      · subst h201
        go_wp2_with (at_builtin; refine wpList_append_own_at _ rfl _ _ 48 rfl M1 5 iu (.int .u8 0) 1 1 Tryz.underlying48 hiu hiu0 hiu1 hiu2 rfl (by decide) _ _ _ rfl (hown.out.alloc _) ⟨wr.heap.size, 0, none⟩ 1 1 [.int .u8 0] rfl rfl (news1 _ _ _ _ rfl) (by simp [Value.oneCell']) (by unfold maxLen; omega) (by omega) (by simp; omega) ?_; intro v' w1 hown' hgrow _ hat2)
        go_roundg (ot0.length - (i + 1))
        case measure => omega
        case rel =>
          refine ⟨i + 1, by omega, rfl, ?_, Below.app hb.out hmz hown.out hgrow⟩
          have h := hown'
          unfold Hid
          rw [HT.out, ← HX.out, if_pos rfl]
          exact h
      · have hne : (x == 201) = false := by simpa using h201
        go_wp2_with (at_builtin; refine wpList_append_own_at _ rfl _ _ 48 rfl M1 5 iu (.int .u8 0) 1 1 Tryz.underlying48 hiu hiu0 hiu1 hiu2 rfl (by decide) _ _ _ rfl (hown.out.alloc _) ⟨wr.heap.size, 0, none⟩ 1 1 [.int .u8 x] rfl rfl (news1 _ _ _ _ rfl) (by simp [Value.oneCell']) (by unfold maxLen; omega) (by omega) (by simp; omega) ?_; intro v' w1 hown' hgrow _ hat2)
        go_roundg (ot0.length - (i + 1))
        case measure => omega
        case rel =>
          refine ⟨i + 1, by omega, rfl, ?_, Below.app hb.out hmz hown.out hgrow⟩
          have h := hown'
          unfold Hid
          rw [HT.out, ← HX.out, if_neg h201]
          exact h
    · obtain rfl : i = ot0.length := by omega
      have HS2 := Lib.hid (HS1.out.keep (HM1.out ▸ hb.out))
      obtain ⟨ot, hot⟩ : ∃ ot, ot = noMark ot0 := ⟨_, rfl⟩
      have hotl : ot.length = ot0.length := by rw [hot]; exact noMark_len ot0
      have hon := hown.out
      rw [← hot, ← hotl, List.take_length] at hon
      have HON := Lib.hid hon
      have HOT : Hid (∀ b ∈ ot, b.toNat ≠ 201) := by unfold Hid; rw [hot]; exact noMark_ne ot0
      have hot20 : ot.length ≤ 20 := by omega
      clear hown hon hot hotl
      obtain ⟨A7, c7, hv7, hr7⟩ := owned_slice HON.out
      subst hv7
      have HR7 := Lib.hid hr7
      have hcap7 := own_cap HON.out
      have HC7 := Lib.hid hcap7
      clear hr7 hcap7
      obtain ⟨wh, hwd⟩ : ∃ wh, wh = wh8 % LL.length := ⟨_, rfl⟩
      have hwl : wh < LL.length := by rw [hwd]; exact Nat.mod_lt _ (by omega)
      have hw1 : (wh8 : Int) % (LL.length : Int) = (wh : Int) := by rw [hwd]; exact (Int.natCast_emod _ _).symm
      have hw2 : (wh8 : Int).tmod (LL.length : Int) = (wh : Int) := by rw [Int.tmod_eq_emod_of_nonneg (by omega)]; exact hw1
      have hn0 : ((LL.length : Int) == 0) = false := by rw [beq_eq_false_iff_ne]; omega
      have hn1 : ¬ (LL.length : Int) = 0 := by omega
      have n1 := HS2.out.2.1.cell 1
      simp only [List.getElem?_cons_succ, List.getElem?_cons_zero] at n1
      clear hwd
      go_upto_region 11 with fail
      go_quiet (fail)
      all_goals skip
      clear n1 hw1 hw2 hn0 hn1
      have HBT : Hid (∀ W, Rd W A7 (byts ot) → Calls Tryz.prog 17 #[.slice A7 ot.length c7] W fun e w' => ∃ v, e = .returned v ∧ w'.ownsRow W.heap.size 5 1 v ot.length (byts ot) ∧ Below W.heap.size W w') := fun W h => bytes_any A7 ot.length c7 ot W h rfl HC7.out.2 (by omega)
      go_upto_region 13 with (go_at_call 17; refine (HBT.out _ (HR7.out.below (below_dn _ _ _))).mono ?_; rintro e W2 ⟨v12, rfl, ho12, hb12⟩; have HO12 := Lib.hid ho12; have HB12 := Lib.hid hb12; clear ho12 hb12)
      have hmz : M1 ≤ wr.heap.size := by have := HM1.out; omega
      have hfl : FoL M1 W2.heap.size WB ot ot [] z29B (.slice A7 ot.length c7) v12 (.slice none 0 0) (W2.alloc (.cells (byts z29B).toArray 53)) := by
        have hb2 : Below M1 WB W2 := (below_drewN hb.out _).trans (HB12.out.mono hmz)
        have h7 := owns_below (owns_below HON.out (below_dn _ _ _)) HB12.out
        have h12 := owns_mono HO12.out (show M1 ≤ _ from hmz)
        have hsep : Sep v12 (.slice A7 ot.length c7) := by
          unfold Sep
          cases hv : v12.ownBlock with
          | none => exact .inl rfl
          | some k =>
            right
            intro e
            have q1 := (HO12.out.lt k hv).1
            have q2 := (HON.out.lt k e.symm).2
            have q1' : wr.heap.size ≤ k := q1
            omega
        exact ⟨h7.alloc _, h12.alloc _, hsep.symm, ⟨by simp [pksC], .inl ⟨rfl, rfl⟩⟩, Row.new W2 53 (byts z29B), by have := HB12.out.size; show M1 ≤ W2.heap.size; exact Nat.le_trans hmz this, hb2.alloc (Nat.le_trans hmz HB12.out.size) _⟩
      have HFL := Lib.hid hfl
      clear hfl
      go_upto_region 15 with fail
      refine genR (FoL M1 W2.heap.size WB ot ot [] z29B (.slice A7 ot.length c7) v12 (.slice none 0 0)) HFL.out ?_
      clear HFL HON HR7 HO12 HB12 HBT hb HS2
      obtain ⟨g14, hg14⟩ : ∃ g14, g14 = W2.heap.size := ⟨_, rfl⟩
      rw [← hg14]
      clear hg14
      intro W3 s3
      have HFL := Lib.hid s3
      clear s3
      go_wp2_with fail
      obtain ⟨fW, hfW⟩ : ∃ fW : Nat → List UInt8, fW = fun i => if wh < i then enF [k0, k1, k2, k3, k4, k5, k6, k7] (mkT LL wh).1 (mkT LL wh).2.1 (mkT LL wh).2.2.1 (mkT LL wh).2.2.2 else z29B := ⟨_, rfl⟩
      have HFW := Lib.hid hfW
      have hf0 : fW 0 = z29B := by rw [hfW]; simp
      have HF0 := Lib.hid hf0
      clear hfW hf0
      go_loopg [7, 12, 13, 93] LL.length (fun g s7 s12 s13 s93 wr => ∃ i : Nat, i + g = LL.length ∧ s93 = .int .i64 i ∧ Hid (FoL M1 g14 WB (ot ++ enAll [k0, k1, k2, k3, k4, k5, k6, k7] (tT LL i)) (ot ++ enAll [k0, k1, k2, k3, k4, k5, k6, k7] (uT LL wh i)) (tT LL i) (fW i) s7 s12 s13 wr) ∧ (∃ A7 c7, s7 = .slice A7 (ot ++ enAll [k0, k1, k2, k3, k4, k5, k6, k7] (tT LL i)).length c7) ∧ (∃ A12 c12, s12 = .slice A12 (ot ++ enAll [k0, k1, k2, k3, k4, k5, k6, k7] (uT LL wh i)).length c12) ∧ (∃ A13 c13, s13 = .slice A13 i c13))
      case atStart =>
        obtain ⟨A12, c12, h12, _⟩ := owned_slice HFL.out.2.1
        have e0 : enAll [k0, k1, k2, k3, k4, k5, k6, k7] (tT LL 0) = [] := rfl
        have e1 : enAll [k0, k1, k2, k3, k4, k5, k6, k7] (uT LL wh 0) = [] := rfl
        have h := HFL.out
        rw [← HF0.out] at h
        refine ⟨0, by omega, rfl, ?_, ⟨A7, c7, ?_⟩, ⟨A12, c12, ?_⟩, none, 0, rfl⟩
        · rw [e0, e1, List.append_nil]; exact h
        · rw [e0, List.append_nil]
        · rw [e1, List.append_nil]; exact h12
      case round =>
        clear HFL
        obtain ⟨i, hi, rfl, hfl, ⟨A7, c7, rfl⟩, ⟨A12, c12, rfl⟩, A13, c13, rfl⟩ := hrel
        have hM1 := HM1.out
        have hbw := hfl.out.2.2.2.2.2.2
        have hmz : M1 ≤ wr.heap.size := by have := hbw.size; omega
        have HF := Lib.hid (HS1.out.keep (hM1 ▸ hbw))
        clear hbw hM1
        by_cases hlt : i < LL.length
        · skip
          obtain ⟨l0, hl0⟩ : ∃ l0, l0 = LL[i].1 := ⟨_, rfl⟩
          obtain ⟨l1, hl1⟩ : ∃ l1, l1 = LL[i].2.1 := ⟨_, rfl⟩
          obtain ⟨l2, hl2⟩ : ∃ l2, l2 = LL[i].2.2 := ⟨_, rfl⟩
          obtain ⟨g0, g1, g2⟩ := ra_get LL i hlt
          obtain ⟨hb0, hb1, hb2⟩ := HLL.out _ (List.getElem_mem hlt)
          rw [← hl0] at g0 hb0; rw [← hl1] at g1 hb1; rw [← hl2] at g2 hb2
          obtain ⟨bA, oA, hA1, hc0⟩ := HF.out.2.2.1 _ _ g0
          obtain ⟨b', o', hA2, hc1⟩ := HF.out.2.2.1 _ _ g1
          obtain ⟨b'', o'', hA3, hc2⟩ := HF.out.2.2.1 _ _ g2
          subst hA1
          cases hA2; cases hA3
          rw [← Nat.add_assoc] at hc1 hc2
          have hmk : mkT LL i = (i, l0.tmod 16385, l1.tmod 16385, l2.tmod 16385) := by
            unfold mkT
            rw [List.getD_eq_getElem?_getD, List.getElem?_eq_getElem hlt]
            simp only [Option.getD_some, hl0, hl1, hl2]
          obtain ⟨xa, hxa⟩ : ∃ xa, l0.tmod 16385 = xa := ⟨_, rfl⟩
          obtain ⟨xb, hxb⟩ : ∃ xb, l1.tmod 16385 = xb := ⟨_, rfl⟩
          obtain ⟨xc, hxc⟩ : ∃ xc, l2.tmod 16385 = xc := ⟨_, rfl⟩
          have bxa := bd_mod l0; have bxb := bd_mod l1; have bxc := bd_mod l2
          rw [hxa] at hmk bxa; rw [hxb] at hmk bxb; rw [hxc] at hmk bxc
          have HMK := Lib.hid hmk; have HXA := Lib.hid hxa; have HXB := Lib.hid hxb; have HXC := Lib.hid hxc
          have hi1 : (i : Int) < (LL.length : Int) := by omega
          have hd2 : i + 1 ≤ maxLen := by unfold maxLen; omega
          have hd3 : (i + 1) * 56 ≤ 140737488355328 := by omega
          have HD2 := Lib.hid hd2; have HD3 := Lib.hid hd3
          clear hd2 hd3
          clear hl0 hl1 hl2 g0 g1 g2 hmk hxa hxb hxc
          have r16 := Row.new wr 55 [.int .i16 0, .int .i16 0, .int .i16 0]
          go_upto_region 19 with (first
            | (refine wpList_store_row rfl 55 _ _ rfl wr.heap.size #[.int .i16 l0, .int .i16 l1, .int .i16 l2] rfl rfl 55 _ r16 ?_ ?_ ?_ ?_; (kernel_rfl); rfl; (simp [Value.oneCell'])))
          have hsS : Row ((((wr.alloc (.cells #[.int .i16 0, .int .i16 0, .int .i16 0] 55)).setRow wr.heap.size #[.int .i16 l0, .int .i16 l1, .int .i16 l2])).alloc (.cells (pkF i [xa, xb, xc] 0).toArray 59)) wr.heap.size 55 [.int .i16 l0, .int .i16 l1, .int .i16 l2] ∧ Row ((((wr.alloc (.cells #[.int .i16 0, .int .i16 0, .int .i16 0] 55)).setRow wr.heap.size #[.int .i16 l0, .int .i16 l1, .int .i16 l2])).alloc (.cells (pkF i [xa, xb, xc] 0).toArray 59)) (wr.heap.size + 1) 59 (pkF i [xa, xb, xc] 0) ∧ Below wr.heap.size wr ((((wr.alloc (.cells #[.int .i16 0, .int .i16 0, .int .i16 0] 55)).setRow wr.heap.size #[.int .i16 l0, .int .i16 l1, .int .i16 l2])).alloc (.cells (pkF i [xa, xb, xc] 0).toArray 59)) := by
            have q1 : Below wr.heap.size wr (((wr.alloc (.cells #[.int .i16 0, .int .i16 0, .int .i16 0] 55)).setRow wr.heap.size #[.int .i16 l0, .int .i16 l1, .int .i16 l2])) := Below.setRow ((Below.refl _ _).alloc (Nat.le_refl _) _) (Nat.le_refl _) _
            have q2 : (((wr.alloc (.cells #[.int .i16 0, .int .i16 0, .int .i16 0] 55)).setRow wr.heap.size #[.int .i16 l0, .int .i16 l1, .int .i16 l2])).heap.size = wr.heap.size + 1 := by simp [World.setRow]
            have q3 := Row.new (((wr.alloc (.cells #[.int .i16 0, .int .i16 0, .int .i16 0] 55)).setRow wr.heap.size #[.int .i16 l0, .int .i16 l1, .int .i16 l2])) 59 (pkF i [xa, xb, xc] 0)
            rw [q2] at q3
            exact ⟨(r16.setRow [.int .i16 l0, .int .i16 l1, .int .i16 l2]).alloc _, q3, q1.alloc q1.size _⟩
          refine genR (fun V => Row V wr.heap.size 55 [.int .i16 l0, .int .i16 l1, .int .i16 l2] ∧ Row V (wr.heap.size + 1) 59 (pkF i [xa, xb, xc] 0) ∧ Below wr.heap.size wr V) hsS ?_
          clear hsS r16 hc0 hc1 hc2
          obtain ⟨XL, hXL⟩ : ∃ XL, XL = [xa, xb, xc] := ⟨_, rfl⟩
          rw [← hXL]
          have HXL := Lib.hid hXL
          clear hXL
          rintro W4 ⟨r16, r17, hb4⟩
          have HR16 := Lib.hid r16; have HR17 := Lib.hid r17; have HB4 := Lib.hid hb4
          clear r16 r17 hb4
          go_wp2_with fail
          obtain ⟨W0, hW0⟩ : ∃ W0 : World, W0 = wr := ⟨_, rfl⟩
          subst hW0
          go_loopg [100] 3 (fun g s100 wr => ∃ k : Nat, k + g = 3 ∧ s100 = .int .i64 k ∧ Hid (Row wr W0.heap.size 55 [.int .i16 l0, .int .i16 l1, .int .i16 l2]) ∧ Hid (Row wr (W0.heap.size + 1) 59 (pkF i XL k)) ∧ Hid (Below W0.heap.size W0 wr))
          case atStart => exact ⟨0, rfl, rfl, HR16.out, HR17.out, HB4.out⟩
          case round =>
            clear HR16 HR17 HB4
            obtain ⟨k, hk, rfl, h16, h17, hb⟩ := hrel
            by_cases hk3 : k < 3
            · obtain ⟨lk, xk, hck, hbk, hxk, hgk, hbx⟩ : ∃ lk xk, ([.int .i16 l0, .int .i16 l1, .int .i16 l2] : List Value)[k]? = some (.int .i16 lk) ∧ (-32768 ≤ lk ∧ lk ≤ 32767) ∧ lk.tmod 16385 = xk ∧ XL.getD k 0 = xk ∧ xk.natAbs ≤ 16384 := by
                rw [HXL.out]
                match k, hk3 with
                | 0, _ => exact ⟨l0, xa, rfl, hb0, HXA.out, rfl, bxa⟩
                | 1, _ => exact ⟨l1, xb, rfl, hb1, HXB.out, rfl, bxb⟩
                | 2, _ => exact ⟨l2, xc, rfl, hb2, HXC.out, rfl, bxc⟩
              have hcell : wr.cell? ⟨W0.heap.size, k, none⟩ = some (.int .i16 lk) := by rw [h16.out.cell]; exact hck
              have hf1 := h17.out.free (3 + k)
              have c1 := h17.out.cellAt (j := 3 + k) (by rw [pkF_len]; omega)
              obtain ⟨o1, ho1⟩ : ∃ o1, o1 = (pkF i XL k)[3 + k]'(by rw [pkF_len]; omega) := ⟨_, rfl⟩
              rw [← ho1] at c1
              have HGK := Lib.hid hgk
              have hk4 : (k : Int) < 3 := by omega
              have hk8 : (k : Int) < 8 := by omega
              clear ho1 hck hgk
              go_wp2_with (go_at_call 18; refine (sample_any xk _ (by omega)).mono ?_; rintro e w' ⟨rfl, rfl⟩)
              go_roundg (2 - k)
              case measure => omega
              case rel =>
                refine ⟨k + 1, by omega, rfl, h16.out.far (by simp) _, ?_, hb.out.setCell (by simp) _⟩
                have h := h17.out.set (3 + k) (.float .f32 (fb xk))
                have e := pkF_set i XL k hk3
                rw [HGK.out] at e
                rw [e] at h
                exact h
            · obtain rfl : k = 3 := by omega
              go_upto_region 24 with fail
              have h17' := h17.out
              rw [HXL.out, pkL_F] at h17'
              have HR17 := Lib.hid h17'
              obtain ⟨W5, hW5⟩ : ∃ W5 : World, W5 = wr := ⟨_, rfl⟩
              subst hW5
              have HF5 := Lib.hid (HF.out.keep hb.out)
              have HL5 := Lib.hid (hfl.out.keep hmz hb.out)
              have hm5 : M1 ≤ W5.heap.size := Nat.le_trans hmz hb.out.size
              clear h17' h16 h17 hb HF hfl
              obtain ⟨en, hen⟩ : ∃ en, en = enF [k0, k1, k2, k3, k4, k5, k6, k7] i xa xb xc := ⟨_, rfl⟩
              have henl : en.length = 29 := by rw [hen]; exact enF_len rfl _ _ _ _
              have HEN := Lib.hid hen; have HENL := Lib.hid henl
              have hi6 : i < 65536 := by omega
              have HENC : Hid (∀ W, Calls Tryz.prog 19 #[.agg #[.int .u8 k0, .int .u8 k1, .int .u8 k2, .int .u8 k3, .int .u8 k4, .int .u8 k5, .int .u8 k6, .int .u8 k7], .agg (pkL i xa xb xc).toArray] W fun e w' => e = .returned (.tuple #[.agg (byts en).toArray, .int .i64 0]) ∧ Below W.heap.size W w') := fun W => by
                rw [hen]; exact enc_law k0 k1 k2 k3 k4 k5 k6 k7 HKEYS.out hi6 bxa bxb bxc W
              have HDEC : Hid (∀ W, Calls Tryz.prog 20 #[.agg #[.int .u8 k0, .int .u8 k1, .int .u8 k2, .int .u8 k3, .int .u8 k4, .int .u8 k5, .int .u8 k6, .int .u8 k7], .agg (byts en).toArray] W fun e w' => e = .returned (.tuple #[.agg (pkL i xa xb xc).toArray, .int .i64 0]) ∧ Below W.heap.size W w') := fun W => by
                rw [hen]; exact dec_law k0 k1 k2 k3 k4 k5 k6 k7 HKEYS.out hi6 bxa bxb bxc W
              clear hen henl
              go_cut [19, 20] from 113 to 119 (fun s19 s20 wx => ∃ g19 : Nat, s19 = .pointer (some ⟨g19, 0, none⟩) ∧ s20 = .int .i64 0 ∧ Row wx g19 53 (byts en) ∧ Below W5.heap.size W5 wx)
              case first => as_aux_lemma =>
                unfold pkL at HENC HR17
                go_wp2_with (first
                  | (refine wpList_load_row rfl 46 _ rfl w.heap.size rfl 46 #[.int .u8 k0, .int .u8 k1, .int .u8 k2, .int .u8 k3, .int .u8 k4, .int .u8 k5, .int .u8 k6, .int .u8 k7] (0, 0) _ HF5.out.1 Tryz.underlying46 rfl ?_ ?_; (kernel_rfl))
                  | (refine wpList_load_row rfl 59 _ rfl (W0.heap.size + 1) rfl 59 #[.int .i64 9, .int .i64 (i : Int), .int .i64 8, .float .f32 (fb xa), .float .f32 (fb xb), .float .f32 (fb xc), .float .f32 0, .float .f32 0, .float .f32 0, .float .f32 0, .float .f32 0] (0, 0) _ HR17.out Tryz.underlying59 rfl ?_ ?_; (kernel_rfl))
                  | (go_at_call 19; refine (HENC.out _).mono ?_; rintro e w1 ⟨rfl, hb1⟩; have HB1 := Lib.hid hb1; clear hb1)
                  | (refine wpList_store_row rfl 53 _ _ rfl w1.heap.size (byts en).toArray rfl rfl 53 _ (Row.new w1 53 (byts z29B)) ?_ ?_ ?_ ?_; (rw [info51]; simp [byts, HENL.out]); (simp [byts, HENL.out, z29B]); (simp [byts, Value.oneCell'])))
                go_meet
                exact ⟨_, rfl, rfl, (Row.new w1 53 (byts z29B)).setRow (byts en), Below.setRow (HB1.out.alloc HB1.out.size _) HB1.out.size _⟩
              case rest =>
              obtain ⟨g19, rfl, rfl, hr19, hb⟩ := hcut
              have HF6 := Lib.hid (HF5.out.keep hb)
              have HL6 := Lib.hid (HL5.out.keep hm5 hb)
              have hm6 : M1 ≤ wc.heap.size := Nat.le_trans hm5 hb.size
              have HR17' := Lib.hid (HR17.out.old hb); have HR19 := Lib.hid hr19
              clear HF5 HL5 hm5 HR17 hr19 hb HENC
              have HR17 := HR17'
              clear HR17'
              obtain ⟨W6, hW6⟩ : ∃ W6 : World, W6 = wc := ⟨_, rfl⟩
              subst hW6
              go_upto_region 25 with fail
              go_cut [21, 22] from 119 to 125 (fun s21 s22 wx => ∃ g21 : Nat, s21 = .pointer (some ⟨g21, 0, none⟩) ∧ s22 = .int .i64 0 ∧ Row wx g21 59 (pkL i xa xb xc) ∧ Below W6.heap.size W6 wx)
              case first => as_aux_lemma =>
                unfold pkL at HDEC
                go_wp2_with (first
                  | (refine wpList_load_row rfl 46 _ rfl w.heap.size rfl 46 #[.int .u8 k0, .int .u8 k1, .int .u8 k2, .int .u8 k3, .int .u8 k4, .int .u8 k5, .int .u8 k6, .int .u8 k7] (0, 0) _ HF6.out.1 Tryz.underlying46 rfl ?_ ?_; (kernel_rfl))
                  | (refine wpList_load_row rfl 53 _ rfl g19 rfl 53 (byts en).toArray (0, 0) _ HR19.out Tryz.underlying53 rfl ?_ ?_; (rw [info51]; simp [byts, HENL.out]))
                  | (go_at_call 20; refine (HDEC.out _).mono ?_; rintro e w1 ⟨rfl, hb1⟩; have HB1 := Lib.hid hb1; clear hb1)
                  | (refine wpList_store_row rfl 59 _ _ rfl w1.heap.size #[.int .i64 9, .int .i64 (i : Int), .int .i64 8, .float .f32 (fb xa), .float .f32 (fb xb), .float .f32 (fb xc), .float .f32 0, .float .f32 0, .float .f32 0, .float .f32 0, .float .f32 0] rfl rfl 59 _ (Row.new w1 59 zero11) ?_ ?_ ?_ ?_; (kernel_rfl); rfl; (simp [Value.oneCell'])))
                go_meet
                exact ⟨_, rfl, rfl, (Row.new w1 59 zero11).setRow (pkL i xa xb xc), Below.setRow (HB1.out.alloc HB1.out.size _) HB1.out.size _⟩
              case rest =>
              obtain ⟨g21, rfl, rfl, hr21, hb⟩ := hcut
              have HF7 := Lib.hid (HF6.out.keep hb)
              have HL7 := Lib.hid (HL6.out.keep hm6 hb)
              have hm7 : M1 ≤ wc.heap.size := Nat.le_trans hm6 hb.size
              have HR17' := Lib.hid (HR17.out.old hb); have HR19' := Lib.hid (HR19.out.old hb); have HR21 := Lib.hid hr21
              clear HF6 HL6 hm6 HR17 HR19 hr21 hb HDEC
              have HR17 := HR17'; have HR19 := HR19'
              clear HR17' HR19'
              obtain ⟨W7, hW7⟩ : ∃ W7 : World, W7 = wc := ⟨_, rfl⟩
              subst hW7
              go_upto_region 26 with fail
              go_cut [135] from 125 to 136 (fun s135 wx => s135 = .bool false ∧ wx = W7)
              case first => as_aux_lemma =>
                have q1 := HR17.out; have q2 := HR21.out
                unfold pkL at q1 q2
                have e1 := neqP (i := i) bxa bxb bxc
                have e2 := eqP (i := i) bxa bxb bxc
                unfold pkL at e1 e2
                have c0 := q1.cell 0; have c1 := q1.cell 1; have c2 := q1.cell 2; have c3 := q1.cell 3; have c4 := q1.cell 4; have c5 := q1.cell 5; have c6 := q1.cell 6; have c7 := q1.cell 7; have c8 := q1.cell 8; have c9 := q1.cell 9; have c10 := q1.cell 10; simp only [List.getElem?_cons_succ, List.getElem?_cons_zero] at c0 c1 c2 c3 c4 c5 c6 c7 c8 c9 c10
                have d0 := q2.cell 0; have d1 := q2.cell 1; have d2 := q2.cell 2; have d3 := q2.cell 3; have d4 := q2.cell 4; have d5 := q2.cell 5; have d6 := q2.cell 6; have d7 := q2.cell 7; have d8 := q2.cell 8; have d9 := q2.cell 9; have d10 := q2.cell 10; simp only [List.getElem?_cons_succ, List.getElem?_cons_zero] at d0 d1 d2 d3 d4 d5 d6 d7 d8 d9 d10
                clear q1 q2
                go_wp2_with fail
                go_meet
                exact ⟨rfl, rfl⟩
              case rest =>
              obtain ⟨rfl, rfl⟩ := hcut
              clear HR21
              obtain ⟨ip, hip0, hip1, hip2, hip3⟩ := info_parts info54w
              go_upto_region 28 with fail
              obtain ⟨W8, hW8⟩ : ∃ W8 : World, W8 = wc := ⟨_, rfl⟩
              subst hW8
              have hpk := pkL_C i xa xb xc
              have HPKC := Lib.hid hpk
              clear hpk
              have h17 := HR17.out
              unfold pkL at h17
              have HR17u := Lib.hid h17
              have h13 := HL7.out.2.2.2.1
              rw [tT_len] at h13
              have H13 := Lib.hid h13
              clear h17 h13 HR17
              go_cut [13] from 136 to 140 (fun s13 wx => ∃ A13b c13b, s13 = .slice A13b (i + 1) c13b ∧ FoL M1 g14 WB (ot ++ enAll [k0, k1, k2, k3, k4, k5, k6, k7] (tT LL i)) (ot ++ enAll [k0, k1, k2, k3, k4, k5, k6, k7] (uT LL wh i)) (tT LL i ++ [(i, xa, xb, xc)]) (fW i) (.slice A7 (ot ++ enAll [k0, k1, k2, k3, k4, k5, k6, k7] (tT LL i)).length c7) (.slice A12 (ot ++ enAll [k0, k1, k2, k3, k4, k5, k6, k7] (uT LL wh i)).length c12) s13 wx ∧ M1 ≤ wx.heap.size ∧ Row wx g19 53 (byts en))
              case first =>  
                go_wp2_with (first | (refine wpList_load_row rfl 59 _ rfl (W0.heap.size + 1) rfl 59 #[.int .i64 9, .int .i64 (i : Int), .int .i64 8, .float .f32 (fb xa), .float .f32 (fb xb), .float .f32 (fb xc), .float .f32 0, .float .f32 0, .float .f32 0, .float .f32 0, .float .f32 0] (0, 0) _ HR17u.out Tryz.underlying59 rfl ?_ ?_; (kernel_rfl)) | (at_builtin; refine wpList_append_own_at _ rfl _ _ 52 rfl M1 59 ip (.agg #[.int .i64 0, .int .i64 0, .int .i64 0, .float .f32 0, .float .f32 0, .float .f32 0, .float .f32 0, .float .f32 0, .float .f32 0, .float .f32 0, .float .f32 0]) 11 56 Tryz.underlying52 hip0 hip1 hip2 hip3 rfl (by decide) _ i (pksC ((tT LL i).map toP)) rfl (H13.out.alloc _) ⟨W8.heap.size, 0, none⟩ 1 1 [.int .i64 9, .int .i64 (i : Int), .int .i64 8, .float .f32 (fb xa), .float .f32 (fb xb), .float .f32 (fb xc), .float .f32 0, .float .f32 0, .float .f32 0, .float .f32 0, .float .f32 0] rfl rfl (news11 _ _ _ _ rfl) (by simp [Value.oneCell']) HD2.out HD3.out (Nat.le_trans hm7 ((Below.refl W8.heap.size W8).alloc (Nat.le_refl _) _).size) ?_; intro v13 w1 hown1 hgrow1 _ _; obtain ⟨A13b, c13b, hv13, _⟩ := owned_slice hown1; subst hv13))
                go_meet
                refine ⟨A13b, c13b, rfl, ?_, ?_, grew_row HR19.out H13.out hgrow1 (by decide)⟩
                · refine FoL.app13 HL7.out hm7 ?_ hgrow1
                  rw [tT_len, ← HPKC.out]
                  exact hown1
                · have h1 := hgrow1.size; simp at h1; omega
              case rest =>
              obtain ⟨A13b, c13b, rfl, hl8, hm8, hr19⟩ := hcut
              have HL8 := Lib.hid hl8; have HR19' := Lib.hid hr19
              clear hl8 hr19 HR17u H13 HL7 hm7 HR19 HPKC HF7
              have HR19 := HR19'
              clear HR19'
              have h8 := HL8.out
              rw [← HMK.out, ← tT_succ, List.length_append, List.length_append] at h8
              clear HL8
              have HL8 := Lib.hid h8
              clear h8
              have h7 := HL8.out.1
              have h12 := HL8.out.2.1
              rw [List.length_append] at h7 h12
              have H7 := Lib.hid h7; have H12 := Lib.hid h12
              clear h7 h12
              have hel7 : (enAll [k0, k1, k2, k3, k4, k5, k6, k7] (tT LL i)).length ≤ 145 := by rw [enAll_len _ rfl, tT_len]; omega
              go_upto_region 30 with (at_builtin; refine wpList_append_own_at _ rfl _ _ 48 rfl M1 5 iu (.int .u8 0) 1 1 Tryz.underlying48 hiu hiu0 hiu1 hiu2 rfl (by decide) (.slice A7 (ot.length + (enAll [k0, k1, k2, k3, k4, k5, k6, k7] (tT LL i)).length) c7) (ot.length + (enAll [k0, k1, k2, k3, k4, k5, k6, k7] (tT LL i)).length) (byts (ot ++ enAll [k0, k1, k2, k3, k4, k5, k6, k7] (tT LL i))) rfl H7.out ⟨g19, 0, none⟩ 29 29 (byts en) rfl (by simp [byts, HENL.out]) (row_news HR19.out) (byts_one _) (by unfold maxLen; omega) (by omega) hm8 ?_; intro v7 w2 hown2 hgrow2 _ hat2)
              have HL9 : Hid (FoL M1 g14 WB (ot ++ enAll [k0, k1, k2, k3, k4, k5, k6, k7] (tT LL i) ++ en) (ot ++ enAll [k0, k1, k2, k3, k4, k5, k6, k7] (uT LL wh i)) (tT LL (i + 1)) (fW i) v7 (.slice A12 (ot.length + (enAll [k0, k1, k2, k3, k4, k5, k6, k7] (uT LL wh i)).length) c12) (.slice A13b (i + 1) c13b) w2) := by
                refine FoL.app7 HL8.out hm8 ?_ hgrow2 hat2
                rw [HENL.out, List.length_append]; exact hown2
              have hm9 : M1 ≤ w2.heap.size := Nat.le_trans hm8 hgrow2.size
              have hr19b : Row w2 g19 53 (byts en) := by
                refine HR19.out.grown hgrow2 ?_
                rcases own_ne HR19.out H7.out (by decide) with h8 | h8
                · rw [h8]; simp
                · exact fun e => h8 e.symm
              have HR19' := Lib.hid hr19b
              obtain ⟨A7b, c7b, hv7, _⟩ := owned_slice hown2
              subst hv7
              have h9 := HL9.out
              rw [List.append_assoc, HEN.out] at h9
              have e9 : enAll [k0, k1, k2, k3, k4, k5, k6, k7] (tT LL i) ++ enF [k0, k1, k2, k3, k4, k5, k6, k7] i xa xb xc = enAll [k0, k1, k2, k3, k4, k5, k6, k7] (tT LL (i + 1)) := by
                rw [tT_succ, enAll_snoc, HMK.out]
              rw [e9] at h9
              clear HL8 HL9 hm8 HR19 hr19b hown2 hgrow2 hat2 H7
              have HL9 := Lib.hid h9
              have E9 := Lib.hid e9
              have HR19 := HR19'
              clear HR19' h9 e9
              have hel12 : (enAll [k0, k1, k2, k3, k4, k5, k6, k7] (uT LL wh i)).length ≤ 145 := by
                rw [enAll_len _ rfl]
                have : (uT LL wh i).length ≤ i := by unfold uT; rw [List.length_map]; exact Nat.le_trans (List.length_filter_le ..) (by simp)
                omega
              have hel7b : (enAll [k0, k1, k2, k3, k4, k5, k6, k7] (tT LL i)).length + 29 = (enAll [k0, k1, k2, k3, k4, k5, k6, k7] (tT LL (i + 1))).length := by
                rw [← E9.out, List.length_append, enF_len rfl]
              have HEL := Lib.hid hel7b
              clear hel7b
              by_cases hiw : i = wh
              · have hne : ((i : Int) != (wh : Int)) = false := by rw [bne_eq_false_iff_eq]; omega
                have HIW := Lib.hid hiw
                clear hiw
                have h14 := HL9.out.2.2.2.2.1
                have H14 := Lib.hid h14
                clear h14
                have h14l : (byts (fW i)).length = 29 := by
                  rw [HFW.out]
                  show (byts (if wh < i then enF [k0, k1, k2, k3, k4, k5, k6, k7] (mkT LL wh).1 (mkT LL wh).2.1 (mkT LL wh).2.2.1 (mkT LL wh).2.2.2 else z29B)).length = 29
                  by_cases hw : wh < i
                  · rw [if_pos hw]; simp only [byts, List.length_map]; exact enF_len rfl _ _ _ _
                  · rw [if_neg hw]; rfl
                have H14L := Lib.hid h14l
                clear h14l
                go_wp2_with (first
                  | (refine wpList_load_row rfl 53 _ rfl g19 rfl 53 (byts en).toArray (0, 0) _ HR19.out Tryz.underlying53 rfl ?_ ?_; (rw [info51]; simp [byts, HENL.out]))
                  | (refine wpList_store_row rfl 53 _ _ rfl g14 (byts en).toArray rfl rfl 53 _ H14.out ?_ ?_ ?_ ?_; (rw [info51]; simp [byts, HENL.out]); (rw [List.size_toArray, List.size_toArray, H14L.out]; simp [byts, HENL.out]); (simp [byts, Value.oneCell'])))
                go_roundg (LL.length - (i + 1))
                case measure => omega
                case rel =>
                  have h := FoL.set14 HL9.out en
                  refine ⟨i + 1, by omega, rfl, ?_, ⟨A7b, c7b, ?_⟩, ⟨A12, c12, ?_⟩, A13b, c13b, rfl⟩
                  · have e1 : uT LL wh (i + 1) = uT LL wh i := by rw [uT_succ, if_pos HIW.out]
                    have e2 : fW (i + 1) = en := by
                      rw [HFW.out, HEN.out]
                      show (if wh < i + 1 then _ else _) = _
                      rw [if_pos (by have := HIW.out; omega), ← HIW.out, HMK.out]
                    rw [e1, e2]
                    exact h
                  · rw [List.length_append, Nat.add_assoc, HEL.out]
                  · rw [uT_succ, if_pos HIW.out, List.length_append]
              · have hne : ((i : Int) != (wh : Int)) = true := by rw [bne_iff_ne]; omega
                have h12b := HL9.out.2.1
                rw [List.length_append] at h12b
                have H12b := Lib.hid h12b
                clear h12b
                go_wp2_with (at_builtin; refine wpList_append_own_at _ rfl _ _ 48 rfl M1 5 iu (.int .u8 0) 1 1 Tryz.underlying48 hiu hiu0 hiu1 hiu2 rfl (by decide) (.slice A12 (ot.length + (enAll [k0, k1, k2, k3, k4, k5, k6, k7] (uT LL wh i)).length) c12) (ot.length + (enAll [k0, k1, k2, k3, k4, k5, k6, k7] (uT LL wh i)).length) (byts (ot ++ enAll [k0, k1, k2, k3, k4, k5, k6, k7] (uT LL wh i))) rfl H12b.out ⟨g19, 0, none⟩ 29 29 (byts en) rfl (by simp [byts, HENL.out]) (row_news HR19.out) (byts_one _) (by unfold maxLen; omega) (by omega) hm9 ?_; intro v12b w3 hown2 hgrow2 _ hat2)
                go_roundg (LL.length - (i + 1))
                case measure => omega
                case rel =>
                  have e1 : enAll [k0, k1, k2, k3, k4, k5, k6, k7] (uT LL wh i) ++ en = enAll [k0, k1, k2, k3, k4, k5, k6, k7] (uT LL wh (i + 1)) := by rw [uT_succ, if_neg hiw, enAll_snoc, HMK.out, HEN.out]
                  have e2 : fW (i + 1) = fW i := by
                    rw [HFW.out]
                    show (if wh < i + 1 then _ else _) = (if wh < i then _ else _)
                    by_cases hw : wh < i
                    · rw [if_pos hw, if_pos (by omega)]
                    · rw [if_neg hw, if_neg (by omega)]
                  have e3 : (enAll [k0, k1, k2, k3, k4, k5, k6, k7] (uT LL wh i)).length + 29 = (enAll [k0, k1, k2, k3, k4, k5, k6, k7] (uT LL wh (i + 1))).length := by rw [← e1, List.length_append, HENL.out]
                  have h : FoL M1 g14 WB (ot ++ enAll [k0, k1, k2, k3, k4, k5, k6, k7] (tT LL (i + 1))) (ot ++ enAll [k0, k1, k2, k3, k4, k5, k6, k7] (uT LL wh i) ++ en) (tT LL (i + 1)) (fW i) (.slice A7b (ot.length + (enAll [k0, k1, k2, k3, k4, k5, k6, k7] (tT LL i)).length + 29) c7b) v12b (.slice A13b (i + 1) c13b) w3 := by
                    refine FoL.app12 HL9.out hm9 ?_ hgrow2 hat2
                    rw [HENL.out, List.length_append]; exact hown2
                  obtain ⟨A12b, c12b, hv12, _⟩ := owned_slice hown2
                  subst hv12
                  refine ⟨i + 1, by omega, rfl, ?_, ⟨A7b, c7b, ?_⟩, ⟨A12b, c12b, ?_⟩, A13b, c13b, rfl⟩
                  · rw [List.append_assoc, e1] at h
                    rw [e2]
                    exact h
                  · rw [List.length_append, Nat.add_assoc, HEL.out]
                  · rw [List.length_append, Nat.add_assoc, e3]
        · obtain rfl : i = LL.length := by omega
          obtain ⟨m1, hm1⟩ : ∃ m1, LL.length = m1 + 1 := ⟨LL.length - 1, by omega⟩
          have HM := Lib.hid hm1
          clear hm1
          obtain ⟨ns, spl, hns⟩ : ∃ (ns : Nat) (spl : List (Int × Int)), ns = (if ot.length = 0 then 0 else 1) ∧ spl = (if ot.length = 0 then [] else [(0, (ot.length : Int))]) := ⟨_, _, rfl, rfl⟩
          have HNS := Lib.hid hns
          clear hns
          have hfe : fW LL.length = enF [k0, k1, k2, k3, k4, k5, k6, k7] (mkT LL wh).1 (mkT LL wh).2.1 (mkT LL wh).2.2.1 (mkT LL wh).2.2.2 := by
            rw [HFW.out]
            show (if wh < LL.length then _ else _) = _
            rw [if_pos hwl]
          have hl0 := hfl.out
          rw [hfe] at hl0
          have HL := Lib.hid hl0
          clear hfe hl0 hfl HFW HF0
          obtain ⟨W1, hW1⟩ : ∃ W1 : World, W1 = wr := ⟨_, rfl⟩
          subst hW1
          obtain ⟨len7, hlen7⟩ : ∃ len7, len7 = ot.length + (enAll [k0, k1, k2, k3, k4, k5, k6, k7] (tT LL LL.length)).length := ⟨_, rfl⟩
          obtain ⟨len12, hlen12⟩ : ∃ len12, len12 = ot.length + (enAll [k0, k1, k2, k3, k4, k5, k6, k7] (uT LL wh LL.length)).length := ⟨_, rfl⟩
          rw [List.length_append, List.length_append] at HL
          rw [← hlen7, ← hlen12] at HL
          simp only [List.length_append]
          rw [← hlen7, ← hlen12]
          have HLEN7 := Lib.hid hlen7; have HLEN12 := Lib.hid hlen12
          have hl7b : len7 ≤ 165 := by rw [hlen7, enAll_len _ rfl, tT_len]; omega
          have h7 := HL.out.1
          rw [List.length_append, ← hlen7] at h7
          have h12 := HL.out.2.1
          rw [List.length_append, ← hlen12] at h12
          have h13 := HL.out.2.2.2.1
          rw [tT_len] at h13
          have HC7b := Lib.hid (own_cap h7); have HC12 := Lib.hid (own_cap h12)
          have HR7 := Lib.hid (owned_rd h7); have HR12 := Lib.hid (owned_rd h12); have HR13 := Lib.hid (owned_rd h13); have HR14 := Lib.hid HL.out.2.2.2.2.1
          clear h7 h12 h13 hlen7 hlen12 HL hmz
          have HBY : Hid (∀ W, Rd W A7 (byts (ot ++ enAll [k0, k1, k2, k3, k4, k5, k6, k7] (tT LL LL.length))) → Calls Tryz.prog 17 #[.slice A7 len7 c7] W fun e w' => ∃ GB cB, e = .returned (.slice GB len7 cB) ∧ len7 ≤ cB ∧ Rd w' GB (byts (ot ++ enAll [k0, k1, k2, k3, k4, k5, k6, k7] (tT LL LL.length))) ∧ Below W.heap.size W w') := fun W h => by
            refine (bytes_any A7 len7 c7 _ W h (by rw [List.length_append]; exact HLEN7.out) HC7b.out.2 (by rw [List.length_append, ← HLEN7.out]; omega)).mono ?_
            rintro e w' ⟨v, rfl, ho, hb⟩
            rw [List.length_append, ← HLEN7.out] at ho
            obtain ⟨GB, cB, rfl, hr⟩ := owned_slice ho
            exact ⟨GB, cB, rfl, (own_cap ho).1, hr, hb⟩
          have HRV : Hid (∀ W GB cB, Rd W GB (byts (ot ++ enAll [k0, k1, k2, k3, k4, k5, k6, k7] (tT LL LL.length))) → len7 ≤ cB → Calls Tryz.prog 21 #[.agg #[.int .u8 k0, .int .u8 k1, .int .u8 k2, .int .u8 k3, .int .u8 k4, .int .u8 k5, .int .u8 k6, .int .u8 k7], .slice GB len7 cB] W fun e w' => ∃ PA pc SA sc, e = .returned (.tuple #[.slice PA LL.length pc, .slice SA ns sc, .int .i64 0]) ∧ Rd w' PA (pksC ((tT LL LL.length).map toP)) ∧ Rd w' SA (spanC spl) ∧ Below W.heap.size W w') := fun W GB cB h hc => by
            have k := recv_law k0 k1 k2 k3 k4 k5 k6 k7 HKEYS.out ot HOT.out hot20 (tT LL LL.length) (by rw [tT_len]; exact h5) (tT_ok LL (by omega)) GB len7 cB W h (by rw [List.length_append]; exact HLEN7.out) hc
            rw [tT_len, ← HNS.out.1, ← HNS.out.2] at k
            exact k
          go_upto_region 34 with fail
          go_cut [23, 24, 25] from 151 to 159 (fun s23 s24 s25 wx => ∃ PA pc SA sc, s23 = .slice PA LL.length pc ∧ s24 = .slice SA ns sc ∧ s25 = .int .i64 0 ∧ Rd wx PA (pksC ((tT LL LL.length).map toP)) ∧ Rd wx SA (spanC spl) ∧ Below W1.heap.size W1 wx)
          case first => as_aux_lemma =>
            refine wp_region_held_drew (S := fun V => Below W1.heap.size W1 V) (by kernel_rfl) ?_ (fun hHeld => ?_)
            · exact (Below.refl _ _).drew
            refine wpAnyH_take (i := 0) (oi := ⟨some 152, _, _, _, _, _⟩) (v := .agg #[.int .u8 k0, .int .u8 k1, .int .u8 k2, .int .u8 k3, .int .u8 k4, .int .u8 k5, .int .u8 k6, .int .u8 k7]) rfl (by kernel_rfl) (by kernel_rfl) (by kernel_rfl) (fun _ _ _ h => h) (Or.inl ⟨by kernel_rfl, fun V hV => ex_row2 46 _ rfl w.heap.size rfl 46 [.int .u8 k0, .int .u8 k1, .int .u8 k2, .int .u8 k3, .int .u8 k4, .int .u8 k5, .int .u8 k6, .int .u8 k7] _ Tryz.underlying46 rfl (by kernel_rfl) (HF.out.keep hV).1⟩) hHeld ?_
            try simp only [Act.put, List.setIfInBounds_toArray, List.set_cons_zero, List.set_cons_succ]
            refine wpAnyH_take (i := 1) (oi := ⟨some 153, _, _, _, _, _⟩) (v := ?_) rfl (by kernel_rfl) (by kernel_rfl) (by kernel_rfl) (fun _ _ _ h => h) (Or.inl ⟨by kernel_rfl, ?_⟩) hHeld ?_
            rotate_left
            · intro w1 hSw; (try dsimp only at hSw); go_simp <;> with_reducible rfl
            try simp only [Act.put, List.setIfInBounds_toArray, List.set_cons_zero, List.set_cons_succ]
            refine wpAnyH_ready (rs := [2]) (by kernel_rfl) (by simp) ?_
            refine AllReadyH.cons rfl (fun K hK => ?_) AllReadyH.nil
            go_simp
            go_at_call 17
            refine (HBY.out _ (HR7.out.below hHeld)).mono ?_
            rintro e v2 ⟨GB, cB, rfl, hcB, hrB, hb2⟩
            try go_simp
            refine hK.out _ _ ?_ (fun hHeld => ?_)
            · exact hHeld.trans (hb2.mono hHeld.size)
            clear hK K
            try simp only [Act.put, List.setIfInBounds_toArray, List.set_cons_zero, List.set_cons_succ]
            refine wpAnyH_ready (rs := [3]) (by kernel_rfl) (by simp) ?_
            refine AllReadyH.cons rfl (fun K hK => ?_) AllReadyH.nil
            go_simp
            go_at_call 21
            refine (HRV.out _ _ _ hrB hcB).mono ?_
            rintro e v3 ⟨PA, pc, SA, sc, rfl, hPA, hSA, hb3⟩
            try go_simp
            refine hK.out _ _ ?_ (fun hHeld => ?_)
            · exact hHeld.trans (hb3.mono hHeld.size)
            clear hK K
            try simp only [Act.put, List.setIfInBounds_toArray, List.set_cons_zero, List.set_cons_succ]
            refine wpAnyH_take (i := 4) (oi := ⟨some 151, _, _, _, _, _⟩) (v := ?_) rfl (by kernel_rfl) (by kernel_rfl) (by kernel_rfl) (fun _ _ _ h => h) (Or.inl ⟨by kernel_rfl, ?_⟩) hHeld ?_
            rotate_left
            · intro w1 hSw; (try dsimp only at hSw); go_simp <;> with_reducible rfl
            try simp only [Act.put, List.setIfInBounds_toArray, List.set_cons_zero, List.set_cons_succ]
            refine wpAnyH_take (i := 5) (oi := ⟨some 156, _, _, _, _, _⟩) (v := ?_) rfl (by kernel_rfl) (by kernel_rfl) (by kernel_rfl) (fun _ _ _ h => h) (Or.inl ⟨by kernel_rfl, ?_⟩) hHeld ?_
            rotate_left
            · intro w1 hSw; (try dsimp only at hSw); go_simp <;> with_reducible rfl
            try simp only [Act.put, List.setIfInBounds_toArray, List.set_cons_zero, List.set_cons_succ]
            refine wpAnyH_take (i := 6) (oi := ⟨some 157, _, _, _, _, _⟩) (v := ?_) rfl (by kernel_rfl) (by kernel_rfl) (by kernel_rfl) (fun _ _ _ h => h) (Or.inl ⟨by kernel_rfl, ?_⟩) hHeld ?_
            rotate_left
            · intro w1 hSw; (try dsimp only at hSw); go_simp <;> with_reducible rfl
            try simp only [Act.put, List.setIfInBounds_toArray, List.set_cons_zero, List.set_cons_succ]
            refine wpAnyH_take (i := 7) (oi := ⟨some 158, _, _, _, _, _⟩) (v := ?_) rfl (by kernel_rfl) (by kernel_rfl) (by kernel_rfl) (fun _ _ _ h => h) (Or.inl ⟨by kernel_rfl, ?_⟩) hHeld ?_
            rotate_left
            · intro w1 hSw; (try dsimp only at hSw); go_simp <;> with_reducible rfl
            try simp only [Act.put, List.setIfInBounds_toArray, List.set_cons_zero, List.set_cons_succ]
            refine wpAnyH_take (i := 8) (oi := ⟨some 23, _, _, _, _, _⟩) (v := ?_) rfl (by kernel_rfl) (by kernel_rfl) (by kernel_rfl) (fun _ _ _ h => h) (Or.inl ⟨by kernel_rfl, ?_⟩) hHeld ?_
            rotate_left
            · intro w1 hSw; (try dsimp only at hSw); go_simp <;> with_reducible rfl
            try simp only [Act.put, List.setIfInBounds_toArray, List.set_cons_zero, List.set_cons_succ]
            refine wpAnyH_take (i := 9) (oi := ⟨some 24, _, _, _, _, _⟩) (v := ?_) rfl (by kernel_rfl) (by kernel_rfl) (by kernel_rfl) (fun _ _ _ h => h) (Or.inl ⟨by kernel_rfl, ?_⟩) hHeld ?_
            rotate_left
            · intro w1 hSw; (try dsimp only at hSw); go_simp <;> with_reducible rfl
            try simp only [Act.put, List.setIfInBounds_toArray, List.set_cons_zero, List.set_cons_succ]
            refine wpAnyH_take (i := 10) (oi := ⟨some 25, _, _, _, _, _⟩) (v := ?_) rfl (by kernel_rfl) (by kernel_rfl) (by kernel_rfl) (fun _ _ _ h => h) (Or.inl ⟨by kernel_rfl, ?_⟩) hHeld ?_
            rotate_left
            · intro w1 hSw; (try dsimp only at hSw); go_simp <;> with_reducible rfl
            try simp only [Act.put, List.setIfInBounds_toArray, List.set_cons_zero, List.set_cons_succ]
            refine wpAnyH_done (by kernel_rfl) ?_ _
            go_wp2_with fail
            go_meet
            exact ⟨PA, pc, SA, sc, rfl, rfl, rfl, hPA, hSA, hHeld⟩
          case rest =>
          obtain ⟨PA, pc, SA, sc, rfl, rfl, rfl, hpa, hsa, hb⟩ := hcut
          have HF' := Lib.hid (HF.out.keep hb)
          have HR12' := Lib.hid (HR12.out.below hb); have HR13' := Lib.hid (HR13.out.below hb); have HR14' := Lib.hid (HR14.out.old hb)
          have HPA := Lib.hid hpa; have HSA := Lib.hid hsa
          clear HF HR7 HR12 HR13 HR14 hpa hsa hb HBY HRV
          have HF := HF'; have HR12 := HR12'; have HR13 := HR13'; have HR14 := HR14'
          clear HF' HR12' HR13' HR14'
          obtain ⟨W2, hW2⟩ : ∃ W2 : World, W2 = wc := ⟨_, rfl⟩
          subst hW2
          go_upto_region 35 with fail
          go_cut [187] from 159 to 188 (fun s187 wx => s187 = .bool false ∧ Below W2.heap.size W2 wx)
          case first => as_aux_lemma =>
            obtain ⟨hns, hspl⟩ := HNS.out
            clear HNS HM HLEN7 HLEN12 HC7b HC12 HR12 HR13 HR14 HPA HKEYS HLL HC7 HOT
            by_cases h0 : ot.length = 0
            · rw [if_pos h0] at hns hspl
              subst hns
              obtain rfl : ot = [] := List.eq_nil_of_length_eq_zero h0
              clear h0 hspl
              go_wp2_with fail
              go_meet
              exact ⟨rfl, Below.refl _ _⟩
            · have b1 : ((ot.length : Int) == 0) = false := by rw [beq_eq_false_iff_ne]; omega
              have b2 : 0 < ot.length := by omega
              rw [if_neg h0] at hns hspl
              subst hns
              subst hspl
              have HSA2 := HSA
              clear h0
              have HSS : Hid (∀ W g, Rd W (some ⟨g, 0, none⟩) (spanC [(0, (ot.length : Int))]) → Rd W SA (spanC [(0, (ot.length : Int))]) → Calls Tryz.prog 22 #[.slice SA 1 sc, .slice (some ⟨g, 0, none⟩) 1 1] W fun e w' => e = .returned (.bool true) ∧ Below W.heap.size W w') := fun W g h1 h2 => by
                refine (sameSpans_any SA _ 1 1 sc 1 [(0, (ot.length : Int))] [(0, (ot.length : Int))] W h2 h1 rfl rfl (by simp)).mono ?_
                rintro e w' ⟨rfl, q, rfl⟩
                exact ⟨by rw [sameSp_refl], below_dn _ _ _⟩
              go_wp2_with (go_at_call 22; refine (HSS.out _ _ (Rd.new _ _ _ _ rfl) (HSA2.out.below ((Below.refl _ _).alloc (Nat.le_refl _) _))).mono ?_; rintro e w1 ⟨rfl, hb1⟩; have HB1 := Lib.hid hb1; clear hb1)
              go_meet
              exact ⟨rfl, ((Below.refl W2.heap.size W2).alloc (Nat.le_refl _) _).trans (HB1.out.mono (by simp))⟩
          case rest =>
          obtain ⟨rfl, hb⟩ := hcut
          have HF' := Lib.hid (HF.out.keep hb)
          have HR12' := Lib.hid (HR12.out.below hb); have HR13' := Lib.hid (HR13.out.below hb); have HR14' := Lib.hid (HR14.out.old hb); have HPA' := Lib.hid (HPA.out.below hb)
          clear HF HR12 HR13 HR14 HPA HSA hb
          have HF := HF'; have HR12 := HR12'; have HR13 := HR13'; have HR14 := HR14'; have HPA := HPA'
          clear HF' HR12' HR13' HR14' HPA'
          obtain ⟨W3, hW3⟩ : ∃ W3 : World, W3 = wc := ⟨_, rfl⟩
          subst hW3
          go_upto_region 37 with fail
          go_cut [26, 27, 28] from 188 to 195 (fun s26 s27 s28 wx => ∃ PB pcb, s26 = .slice PB m1 pcb ∧ s28 = .int .i64 0 ∧ Rd wx PB (pksC ((uT LL wh LL.length).map toP)) ∧ Below W3.heap.size W3 wx)
          case first => as_aux_lemma =>
            have HRV : Hid (∀ W, Rd W A12 (byts (ot ++ enAll [k0, k1, k2, k3, k4, k5, k6, k7] (uT LL wh LL.length))) → Calls Tryz.prog 21 #[.agg #[.int .u8 k0, .int .u8 k1, .int .u8 k2, .int .u8 k3, .int .u8 k4, .int .u8 k5, .int .u8 k6, .int .u8 k7], .slice A12 len12 c12] W fun e w' => ∃ PB pcb SB ss sc2, e = .returned (.tuple #[.slice PB m1 pcb, .slice SB ss sc2, .int .i64 0]) ∧ Rd w' PB (pksC ((uT LL wh LL.length).map toP)) ∧ Below W.heap.size W w') := fun W h => by
              have ul : (uT LL wh LL.length).length = m1 := by rw [uT_len LL hwl]; have := HM.out; omega
              have k := recv_law k0 k1 k2 k3 k4 k5 k6 k7 HKEYS.out ot HOT.out hot20 (uT LL wh LL.length) (by rw [ul]; have := HM.out; omega) (uT_ok LL (by omega)) A12 len12 c12 W h (by rw [List.length_append]; exact HLEN12.out) HC12.out.1
              rw [ul] at k
              exact k.mono fun e w' ⟨PA, pc, SA, sc, h1, h2, _, h4⟩ => ⟨PA, pc, SA, _, sc, h1, h2, h4⟩
            go_wp2_with (first
              | (refine wpList_load_row rfl 46 _ rfl w.heap.size rfl 46 #[.int .u8 k0, .int .u8 k1, .int .u8 k2, .int .u8 k3, .int .u8 k4, .int .u8 k5, .int .u8 k6, .int .u8 k7] (0, 0) _ HF.out.1 Tryz.underlying46 rfl ?_ ?_; (kernel_rfl))
              | (go_at_call 21; refine (HRV.out _ HR12.out).mono ?_; rintro e w1 ⟨PB, pcb, SB, ss, sc2, rfl, hpb, hb1⟩; have HPB := Lib.hid hpb; have HB1 := Lib.hid hb1; clear hpb hb1))
            go_meet
            exact ⟨PB, pcb, rfl, rfl, HPB.out, HB1.out⟩
          case rest =>
          obtain ⟨PB, pcb, rfl, rfl, hpb, hb⟩ := hcut
          have HF' := Lib.hid (HF.out.keep hb)
          have HR13' := Lib.hid (HR13.out.below hb); have HR14' := Lib.hid (HR14.out.old hb); have HPA' := Lib.hid (HPA.out.below hb); have HPB := Lib.hid hpb
          clear HF HR12 HR13 HR14 HPA hpb hb HC12 HLEN12 HC7b HLEN7
          have HF := HF'; have HR13 := HR13'; have HR14 := HR14'; have HPA := HPA'
          clear HF' HR13' HR14' HPA'
          obtain ⟨W4, hW4⟩ : ∃ W4 : World, W4 = wc := ⟨_, rfl⟩
          subst hW4
          have hq1 : IntKind.i64.wrap ((LL.length : Int) - 1) = (m1 : Int) := by rw [IntWalk.i64_in _ (by omega)]; have := HM.out; omega
          have hq2 : (LL.length : Int) - 1 = (m1 : Int) := by have := HM.out; omega
          go_upto_region 40 with fail
          clear hq1 hq2
          go_wp2_with fail
          go_loopg [207] LL.length (fun g s207 wx => ∃ i : Nat, i + g = LL.length ∧ s207 = .int .i64 i ∧ Hid (Below W4.heap.size W4 wx))
          case atStart => exact ⟨0, by omega, rfl, Below.refl _ _⟩
          case round =>
            obtain ⟨i, hi, rfl, hb⟩ := hrel
            by_cases hlt : i < LL.length
            · skip
              obtain ⟨xa, xb, xc, hmk, bxa, bxb, bxc⟩ : ∃ xa xb xc, mkT LL i = (i, xa, xb, xc) ∧ xa.natAbs ≤ 16384 ∧ xb.natAbs ≤ 16384 ∧ xc.natAbs ≤ 16384 := ⟨_, _, _, rfl, bd_mod _, bd_mod _, bd_mod _⟩
              have HMK := Lib.hid hmk
              obtain ⟨b3, o3, hA3, hc⟩ := tri_cells (HR13.out.below hb.out) ((tT_get LL hlt).trans (congrArg some hmk))
              subst hA3
              have hi1 : (i : Int) < (LL.length : Int) := by omega
              unfold pkL at hc
              have hc := hc wr (Below.refl _ _)
              have c0 := hc 0 _ rfl; have c1 := hc 1 _ rfl; have c2 := hc 2 _ rfl; have c3 := hc 3 _ rfl; have c4 := hc 4 _ rfl; have c5 := hc 5 _ rfl; have c6 := hc 6 _ rfl; have c7 := hc 7 _ rfl; have c8 := hc 8 _ rfl; have c9 := hc 9 _ rfl; have c10 := hc 10 _ rfl
              rw [Nat.add_zero] at c0
              clear hc hmk
              go_upto_region 43 with (first
                | (refine wpList_store_row rfl 59 _ _ rfl wr.heap.size #[.int .i64 9, .int .i64 (i : Int), .int .i64 8, .float .f32 (fb xa), .float .f32 (fb xb), .float .f32 (fb xc), .float .f32 0, .float .f32 0, .float .f32 0, .float .f32 0, .float .f32 0] rfl rfl 59 _ (Row.new wr 59 zero11) ?_ ?_ ?_ ?_; (kernel_rfl); rfl; (simp [Value.oneCell'])))
              clear c0 c1 c2 c3 c4 c5 c6 c7 c8 c9 c10
              have hsS : Row ((wr.alloc (.cells zero11.toArray 59)).setRow wr.heap.size #[.int .i64 9, .int .i64 (i : Int), .int .i64 8, .float .f32 (fb xa), .float .f32 (fb xb), .float .f32 (fb xc), .float .f32 0, .float .f32 0, .float .f32 0, .float .f32 0, .float .f32 0]) wr.heap.size 59 (pkL i xa xb xc) ∧ Below wr.heap.size wr ((wr.alloc (.cells zero11.toArray 59)).setRow wr.heap.size #[.int .i64 9, .int .i64 (i : Int), .int .i64 8, .float .f32 (fb xa), .float .f32 (fb xb), .float .f32 (fb xc), .float .f32 0, .float .f32 0, .float .f32 0, .float .f32 0, .float .f32 0]) :=
                ⟨(Row.new wr 59 zero11).setRow (pkL i xa xb xc), Below.setRow ((Below.refl _ _).alloc (Nat.le_refl _) _) (Nat.le_refl _) _⟩
              obtain ⟨gp, hgp⟩ : ∃ gp, gp = wr.heap.size := ⟨_, rfl⟩
              refine genR (fun V => Row V wr.heap.size 59 (pkL i xa xb xc) ∧ Below wr.heap.size wr V) hsS ?_
              clear hsS
              rintro W5 ⟨hrp, hb5⟩
              have hbb : Below W4.heap.size W4 W5 := hb.out.trans (hb5.mono hb.out.size)
              rw [← hgp] at hrp
              rw [← hgp]
              have HB5 := Lib.hid hbb
              clear hb5 hgp hb hbb
              obtain ⟨b2, o2, hA2, hd⟩ := tri_cells (HPA.out.below HB5.out) ((tT_get LL hlt).trans (congrArg some HMK.out))
              subst hA2
              simp only [Act.put]
              have HRP := Lib.hid hrp; have HD := Lib.hid hd
              clear hrp hd
              rcases (show i < wh ∨ i = wh ∨ wh < i by omega) with hw | hw | hw
              · as_aux_lemma =>
                have g1 : decide (i < wh) = true := decide_eq_true hw
                have g2 : decide ((i : Int) < (wh : Int)) = true := decide_eq_true (by omega)
                have g3 : decide (wh < i) = false := decide_eq_false (by omega)
                have g4 : decide ((wh : Int) < (i : Int)) = false := decide_eq_false (by omega)
                obtain ⟨b6, o6, hA6, hk⟩ := tri_cells (HPB.out.below HB5.out) ((uT_low LL hwl hw).trans (congrArg some HMK.out))
                subst hA6
                have HK := Lib.hid hk
                have hm1 : (i : Int) < (m1 : Int) := by have := HM.out; omega
                clear hk
                refine wp_region_held_drew (S := fun V => Below W5.heap.size W5 V) (by kernel_rfl) ?_ (fun hHeld => ?_)
                · exact (Below.refl _ _).drew
                refine wpAnyH_take (i := 0) (oi := ⟨some 212, _, _, _, _, _⟩) (v := ?_) rfl (by kernel_rfl) (by kernel_rfl) (by kernel_rfl) (fun _ _ _ h => h) (Or.inl ⟨by kernel_rfl, ?_⟩) hHeld ?_
                rotate_left
                · intro w1 hSw; (try dsimp only at hSw); go_simp <;> with_reducible rfl
                try simp only [Act.put, List.setIfInBounds_toArray, List.set_cons_zero, List.set_cons_succ]
                refine wpAnyH_take (i := 1) (oi := ⟨some 213, _, _, _, _, _⟩) (v := ?_) rfl (by kernel_rfl) (by kernel_rfl) (by kernel_rfl) (fun _ _ _ h => h) (Or.inl ⟨by kernel_rfl, ?_⟩) hHeld ?_
                rotate_left
                · intro w1 hSw; (try dsimp only at hSw); go_simp <;> with_reducible rfl
                try simp only [Act.put, List.setIfInBounds_toArray, List.set_cons_zero, List.set_cons_succ]
                refine wpAnyH_take (i := 2) (oi := ⟨some 214, _, _, _, _, _⟩) (v := ?_) rfl (by kernel_rfl) (by kernel_rfl) (by kernel_rfl) (fun _ _ _ h => h) (Or.inl ⟨by kernel_rfl, ?_⟩) hHeld ?_
                rotate_left
                · intro w1 hSw; (try dsimp only at hSw); go_simp <;> with_reducible rfl
                try simp only [Act.put, List.setIfInBounds_toArray, List.set_cons_zero, List.set_cons_succ]
                refine wpAnyH_take (i := 3) (oi := ⟨some 215, _, _, _, _, _⟩) (v := .agg (pkL i xa xb xc).toArray) rfl (by kernel_rfl) (by kernel_rfl) (by kernel_rfl) (fun _ _ _ h => h) (Or.inl ⟨by kernel_rfl, fun V hV => ex_pk _ rfl b2 (o2 + i * 11) rfl (HD.out V hV)⟩) hHeld ?_
                try simp only [Act.put, List.setIfInBounds_toArray, List.set_cons_zero, List.set_cons_succ]
                refine wpAnyH_take (i := 4) (oi := ⟨some 216, _, _, _, _, _⟩) (v := .agg (pkL i xa xb xc).toArray) rfl (by kernel_rfl) (by kernel_rfl) (by kernel_rfl) (fun _ _ _ h => h) (Or.inl ⟨by kernel_rfl, fun V hV => ex_row2 59 _ rfl gp rfl 59 (pkL i xa xb xc) _ Tryz.underlying59 rfl (by kernel_rfl) (HRP.out.old hV)⟩) hHeld ?_
                try simp only [Act.put, List.setIfInBounds_toArray, List.set_cons_zero, List.set_cons_succ]
                refine wpAnyH_take (i := 5) (oi := ⟨some 217, _, _, _, _, _⟩) (v := .bool false) rfl (by kernel_rfl) (by kernel_rfl) (by kernel_rfl) (fun _ _ _ h => h) (Or.inl ⟨by kernel_rfl, fun V hV => ex_neqP _ _ rfl rfl rfl bxa bxb bxc⟩) hHeld ?_
                try simp only [Act.put, List.setIfInBounds_toArray, List.set_cons_zero, List.set_cons_succ]
                refine wpAnyH_take (i := 6) (oi := ⟨some 218, _, _, _, _, _⟩) (v := ?_) rfl (by kernel_rfl) (by kernel_rfl) (by kernel_rfl) (fun _ _ _ h => h) (Or.inl ⟨by kernel_rfl, ?_⟩) hHeld ?_
                rotate_left
                · intro w1 hSw; (try dsimp only at hSw); go_simp <;> with_reducible rfl
                try simp only [Act.put, List.setIfInBounds_toArray, List.set_cons_zero, List.set_cons_succ]
                refine wpAnyH_take (i := 7) (oi := ⟨some 219, _, _, _, _, _⟩) (v := ?_) rfl (by kernel_rfl) (by kernel_rfl) (by kernel_rfl) (fun _ _ _ h => h) (Or.inl ⟨by kernel_rfl, ?_⟩) hHeld ?_
                rotate_left
                · intro w1 hSw; (try dsimp only at hSw); go_simp <;> with_reducible rfl
                try simp only [Act.put, List.setIfInBounds_toArray, List.set_cons_zero, List.set_cons_succ]
                refine wpAnyH_take (i := 8) (oi := ⟨some 220, _, _, _, _, _⟩) (v := ?_) rfl (by kernel_rfl) (by kernel_rfl) (by kernel_rfl) (fun _ _ _ h => h) (Or.inl ⟨by kernel_rfl, ?_⟩) hHeld ?_
                rotate_left
                · intro w1 hSw; (try dsimp only at hSw); go_simp <;> with_reducible rfl
                try simp only [Act.put, List.setIfInBounds_toArray, List.set_cons_zero, List.set_cons_succ]
                refine wpAnyH_take (i := 9) (oi := ⟨some 221, _, _, _, _, _⟩) (v := ?_) rfl (by kernel_rfl) (by kernel_rfl) (by kernel_rfl) (fun _ _ _ h => h) (Or.inl ⟨by kernel_rfl, ?_⟩) hHeld ?_
                rotate_left
                · intro w1 hSw; (try dsimp only at hSw); go_simp <;> with_reducible rfl
                try simp only [Act.put, List.setIfInBounds_toArray, List.set_cons_zero, List.set_cons_succ]
                refine wpAnyH_take (i := 10) (oi := ⟨some 222, _, _, _, _, _⟩) (v := ?_) rfl (by kernel_rfl) (by kernel_rfl) (by kernel_rfl) (fun _ _ _ h => h) (Or.inl ⟨by kernel_rfl, ?_⟩) hHeld ?_
                rotate_left
                · intro w1 hSw; (try dsimp only at hSw); go_simp <;> with_reducible rfl
                try simp only [Act.put, List.setIfInBounds_toArray, List.set_cons_zero, List.set_cons_succ]
                refine wpAnyH_take (i := 11) (oi := ⟨some 223, _, _, _, _, _⟩) (v := ?_) rfl (by kernel_rfl) (by kernel_rfl) (by kernel_rfl) (fun _ _ _ h => h) (Or.inl ⟨by kernel_rfl, ?_⟩) hHeld ?_
                rotate_left
                · intro w1 hSw; (try dsimp only at hSw); go_simp <;> with_reducible rfl
                try simp only [Act.put, List.setIfInBounds_toArray, List.set_cons_zero, List.set_cons_succ]
                refine wpAnyH_take (i := 12) (oi := ⟨some 224, _, _, _, _, _⟩) (v := ?_) rfl (by kernel_rfl) (by kernel_rfl) (by kernel_rfl) (fun _ _ _ h => h) (Or.inl ⟨by kernel_rfl, ?_⟩) hHeld ?_
                rotate_left
                · intro w1 hSw; (try dsimp only at hSw); go_simp <;> with_reducible rfl
                try simp only [Act.put, List.setIfInBounds_toArray, List.set_cons_zero, List.set_cons_succ]
                refine wpAnyH_take (i := 13) (oi := ⟨some 225, _, _, _, _, _⟩) (v := ?_) rfl (by kernel_rfl) (by kernel_rfl) (by kernel_rfl) (fun _ _ _ h => h) (Or.inl ⟨by kernel_rfl, ?_⟩) hHeld ?_
                rotate_left
                · intro w1 hSw; (try dsimp only at hSw); go_simp <;> with_reducible rfl
                try simp only [Act.put, List.setIfInBounds_toArray, List.set_cons_zero, List.set_cons_succ]
                refine wpAnyH_take (i := 14) (oi := ⟨some 226, _, _, _, _, _⟩) (v := .agg (pkL i xa xb xc).toArray) rfl (by kernel_rfl) (by kernel_rfl) (by kernel_rfl) (fun _ _ _ h => h) (Or.inl ⟨by kernel_rfl, fun V hV => ex_pk _ rfl b6 (o6 + i * 11) rfl (HK.out V hV)⟩) hHeld ?_
                try simp only [Act.put, List.setIfInBounds_toArray, List.set_cons_zero, List.set_cons_succ]
                refine wpAnyH_take (i := 15) (oi := ⟨some 227, _, _, _, _, _⟩) (v := .agg (pkL i xa xb xc).toArray) rfl (by kernel_rfl) (by kernel_rfl) (by kernel_rfl) (fun _ _ _ h => h) (Or.inl ⟨by kernel_rfl, fun V hV => ex_row2 59 _ rfl gp rfl 59 (pkL i xa xb xc) _ Tryz.underlying59 rfl (by kernel_rfl) (HRP.out.old hV)⟩) hHeld ?_
                try simp only [Act.put, List.setIfInBounds_toArray, List.set_cons_zero, List.set_cons_succ]
                refine wpAnyH_take (i := 16) (oi := ⟨some 228, _, _, _, _, _⟩) (v := .bool false) rfl (by kernel_rfl) (by kernel_rfl) (by kernel_rfl) (fun _ _ _ h => h) (Or.inl ⟨by kernel_rfl, fun V hV => ex_neqP _ _ rfl rfl rfl bxa bxb bxc⟩) hHeld ?_
                try simp only [Act.put, List.setIfInBounds_toArray, List.set_cons_zero, List.set_cons_succ]
                refine wpAnyH_take (i := 17) (oi := ⟨some 229, _, _, _, _, _⟩) (v := ?_) rfl (by kernel_rfl) (by kernel_rfl) (by kernel_rfl) (fun _ _ _ h => h) (Or.inl ⟨by kernel_rfl, ?_⟩) hHeld ?_
                rotate_left
                · intro w1 hSw; (try dsimp only at hSw); go_simp <;> with_reducible rfl
                try simp only [Act.put, List.setIfInBounds_toArray, List.set_cons_zero, List.set_cons_succ]
                refine wpAnyH_take (i := 18) (oi := ⟨some 230, _, _, _, _, _⟩) (v := ?_) rfl (by kernel_rfl) (by kernel_rfl) (by kernel_rfl) (fun _ _ _ h => h) (Or.inl ⟨by kernel_rfl, ?_⟩) hHeld ?_
                rotate_left
                · intro w1 hSw; (try dsimp only at hSw); go_simp <;> with_reducible rfl
                try simp only [Act.put, List.setIfInBounds_toArray, List.set_cons_zero, List.set_cons_succ]
                refine wpAnyH_take (i := 19) (oi := ⟨some 231, _, _, _, _, _⟩) (v := ?_) rfl (by kernel_rfl) (by kernel_rfl) (by kernel_rfl) (fun _ _ _ h => h) (Or.inl ⟨by kernel_rfl, ?_⟩) hHeld ?_
                rotate_left
                · intro w1 hSw; (try dsimp only at hSw); go_simp <;> with_reducible rfl
                try simp only [Act.put, List.setIfInBounds_toArray, List.set_cons_zero, List.set_cons_succ]
                refine wpAnyH_take (i := 20) (oi := ⟨some 232, _, _, _, _, _⟩) (v := ?_) rfl (by kernel_rfl) (by kernel_rfl) (by kernel_rfl) (fun _ _ _ h => h) (Or.inl ⟨by kernel_rfl, ?_⟩) hHeld ?_
                rotate_left
                · intro w1 hSw; (try dsimp only at hSw); go_simp <;> with_reducible rfl
                try simp only [Act.put, List.setIfInBounds_toArray, List.set_cons_zero, List.set_cons_succ]
                refine wpAnyH_take (i := 21) (oi := ⟨some 233, _, _, _, _, _⟩) (v := ?_) rfl (by kernel_rfl) (by kernel_rfl) (by kernel_rfl) (fun _ _ _ h => h) (Or.inl ⟨by kernel_rfl, ?_⟩) hHeld ?_
                rotate_left
                · intro w1 hSw; (try dsimp only at hSw); go_simp <;> with_reducible rfl
                try simp only [Act.put, List.setIfInBounds_toArray, List.set_cons_zero, List.set_cons_succ]
                refine wpAnyH_take (i := 22) (oi := ⟨some 234, _, _, _, _, _⟩) (v := ?_) rfl (by kernel_rfl) (by kernel_rfl) (by kernel_rfl) (fun _ _ _ h => h) (Or.inl ⟨by kernel_rfl, ?_⟩) hHeld ?_
                rotate_left
                · intro w1 hSw; (try dsimp only at hSw); go_simp <;> with_reducible rfl
                try simp only [Act.put, List.setIfInBounds_toArray, List.set_cons_zero, List.set_cons_succ]
                refine wpAnyH_take (i := 23) (oi := ⟨some 235, _, _, _, _, _⟩) (v := ?_) rfl (by kernel_rfl) (by kernel_rfl) (by kernel_rfl) (fun _ _ _ h => h) (Or.inl ⟨by kernel_rfl, ?_⟩) hHeld ?_
                rotate_left
                · intro w1 hSw; (try dsimp only at hSw); go_simp <;> with_reducible rfl
                try simp only [Act.put, List.setIfInBounds_toArray, List.set_cons_zero, List.set_cons_succ]
                refine wpAnyH_take (i := 24) (oi := ⟨some 236, _, _, _, _, _⟩) (v := undef) rfl (by kernel_rfl) (by kernel_rfl) (by kernel_rfl) (fun _ _ _ h => h) (Or.inr ⟨by kernel_rfl, rfl⟩) hHeld ?_
                try simp only [Act.put, List.setIfInBounds_toArray, List.set_cons_zero, List.set_cons_succ]
                refine wpAnyH_take (i := 25) (oi := ⟨some 237, _, _, _, _, _⟩) (v := undef) rfl (by kernel_rfl) (by kernel_rfl) (by kernel_rfl) (fun _ _ _ h => h) (Or.inr ⟨by kernel_rfl, rfl⟩) hHeld ?_
                try simp only [Act.put, List.setIfInBounds_toArray, List.set_cons_zero, List.set_cons_succ]
                refine wpAnyH_take (i := 26) (oi := ⟨some 238, _, _, _, _, _⟩) (v := undef) rfl (by kernel_rfl) (by kernel_rfl) (by kernel_rfl) (fun _ _ _ h => h) (Or.inr ⟨by kernel_rfl, rfl⟩) hHeld ?_
                try simp only [Act.put, List.setIfInBounds_toArray, List.set_cons_zero, List.set_cons_succ]
                refine wpAnyH_take (i := 27) (oi := ⟨some 239, _, _, _, _, _⟩) (v := undef) rfl (by kernel_rfl) (by kernel_rfl) (by kernel_rfl) (fun _ _ _ h => h) (Or.inr ⟨by kernel_rfl, rfl⟩) hHeld ?_
                try simp only [Act.put, List.setIfInBounds_toArray, List.set_cons_zero, List.set_cons_succ]
                refine wpAnyH_take (i := 28) (oi := ⟨some 240, _, _, _, _, _⟩) (v := undef) rfl (by kernel_rfl) (by kernel_rfl) (by kernel_rfl) (fun _ _ _ h => h) (Or.inr ⟨by kernel_rfl, rfl⟩) hHeld ?_
                try simp only [Act.put, List.setIfInBounds_toArray, List.set_cons_zero, List.set_cons_succ]
                refine wpAnyH_take (i := 29) (oi := ⟨some 241, _, _, _, _, _⟩) (v := undef) rfl (by kernel_rfl) (by kernel_rfl) (by kernel_rfl) (fun _ _ _ h => h) (Or.inr ⟨by kernel_rfl, rfl⟩) hHeld ?_
                try simp only [Act.put, List.setIfInBounds_toArray, List.set_cons_zero, List.set_cons_succ]
                refine wpAnyH_take (i := 30) (oi := ⟨some 242, _, _, _, _, _⟩) (v := undef) rfl (by kernel_rfl) (by kernel_rfl) (by kernel_rfl) (fun _ _ _ h => h) (Or.inr ⟨by kernel_rfl, rfl⟩) hHeld ?_
                try simp only [Act.put, List.setIfInBounds_toArray, List.set_cons_zero, List.set_cons_succ]
                refine wpAnyH_take (i := 31) (oi := ⟨some 243, _, _, _, _, _⟩) (v := ?_) rfl (by kernel_rfl) (by kernel_rfl) (by kernel_rfl) (fun _ _ _ h => h) (Or.inl ⟨by kernel_rfl, ?_⟩) hHeld ?_
                rotate_left
                · intro w1 hSw; (try dsimp only at hSw); go_simp <;> with_reducible rfl
                try simp only [Act.put, List.setIfInBounds_toArray, List.set_cons_zero, List.set_cons_succ]
                refine wpAnyH_take (i := 32) (oi := ⟨some 244, _, _, _, _, _⟩) (v := ?_) rfl (by kernel_rfl) (by kernel_rfl) (by kernel_rfl) (fun _ _ _ h => h) (Or.inl ⟨by kernel_rfl, ?_⟩) hHeld ?_
                rotate_left
                · intro w1 hSw; (try dsimp only at hSw); go_simp <;> with_reducible rfl
                try simp only [Act.put, List.setIfInBounds_toArray, List.set_cons_zero, List.set_cons_succ]
                refine wpAnyH_done (by kernel_rfl) ?_ _
                go_wp2_with fail
                go_roundg (LL.length - (i + 1))
                case measure => omega
                case rel => exact ⟨i + 1, by omega, rfl, HB5.out.trans (hHeld.mono HB5.out.size)⟩
              · as_aux_lemma =>
                subst hw
                have g1 : decide (i < i) = false := decide_eq_false (by omega)
                have g2 : decide ((i : Int) < (i : Int)) = false := decide_eq_false (by omega)
                refine wp_region_held_drew (S := fun V => Below W5.heap.size W5 V) (by kernel_rfl) ?_ (fun hHeld => ?_)
                · exact (Below.refl _ _).drew
                refine wpAnyH_take (i := 0) (oi := ⟨some 212, _, _, _, _, _⟩) (v := ?_) rfl (by kernel_rfl) (by kernel_rfl) (by kernel_rfl) (fun _ _ _ h => h) (Or.inl ⟨by kernel_rfl, ?_⟩) hHeld ?_
                rotate_left
                · intro w1 hSw; (try dsimp only at hSw); go_simp <;> with_reducible rfl
                try simp only [Act.put, List.setIfInBounds_toArray, List.set_cons_zero, List.set_cons_succ]
                refine wpAnyH_take (i := 1) (oi := ⟨some 213, _, _, _, _, _⟩) (v := ?_) rfl (by kernel_rfl) (by kernel_rfl) (by kernel_rfl) (fun _ _ _ h => h) (Or.inl ⟨by kernel_rfl, ?_⟩) hHeld ?_
                rotate_left
                · intro w1 hSw; (try dsimp only at hSw); go_simp <;> with_reducible rfl
                try simp only [Act.put, List.setIfInBounds_toArray, List.set_cons_zero, List.set_cons_succ]
                refine wpAnyH_take (i := 2) (oi := ⟨some 214, _, _, _, _, _⟩) (v := ?_) rfl (by kernel_rfl) (by kernel_rfl) (by kernel_rfl) (fun _ _ _ h => h) (Or.inl ⟨by kernel_rfl, ?_⟩) hHeld ?_
                rotate_left
                · intro w1 hSw; (try dsimp only at hSw); go_simp <;> with_reducible rfl
                try simp only [Act.put, List.setIfInBounds_toArray, List.set_cons_zero, List.set_cons_succ]
                refine wpAnyH_take (i := 3) (oi := ⟨some 215, _, _, _, _, _⟩) (v := .agg (pkL i xa xb xc).toArray) rfl (by kernel_rfl) (by kernel_rfl) (by kernel_rfl) (fun _ _ _ h => h) (Or.inl ⟨by kernel_rfl, fun V hV => ex_pk _ rfl b2 (o2 + i * 11) rfl (HD.out V hV)⟩) hHeld ?_
                try simp only [Act.put, List.setIfInBounds_toArray, List.set_cons_zero, List.set_cons_succ]
                refine wpAnyH_take (i := 4) (oi := ⟨some 216, _, _, _, _, _⟩) (v := .agg (pkL i xa xb xc).toArray) rfl (by kernel_rfl) (by kernel_rfl) (by kernel_rfl) (fun _ _ _ h => h) (Or.inl ⟨by kernel_rfl, fun V hV => ex_row2 59 _ rfl gp rfl 59 (pkL i xa xb xc) _ Tryz.underlying59 rfl (by kernel_rfl) (HRP.out.old hV)⟩) hHeld ?_
                try simp only [Act.put, List.setIfInBounds_toArray, List.set_cons_zero, List.set_cons_succ]
                refine wpAnyH_take (i := 5) (oi := ⟨some 217, _, _, _, _, _⟩) (v := .bool false) rfl (by kernel_rfl) (by kernel_rfl) (by kernel_rfl) (fun _ _ _ h => h) (Or.inl ⟨by kernel_rfl, fun V hV => ex_neqP _ _ rfl rfl rfl bxa bxb bxc⟩) hHeld ?_
                try simp only [Act.put, List.setIfInBounds_toArray, List.set_cons_zero, List.set_cons_succ]
                refine wpAnyH_take (i := 6) (oi := ⟨some 218, _, _, _, _, _⟩) (v := ?_) rfl (by kernel_rfl) (by kernel_rfl) (by kernel_rfl) (fun _ _ _ h => h) (Or.inl ⟨by kernel_rfl, ?_⟩) hHeld ?_
                rotate_left
                · intro w1 hSw; (try dsimp only at hSw); go_simp <;> with_reducible rfl
                try simp only [Act.put, List.setIfInBounds_toArray, List.set_cons_zero, List.set_cons_succ]
                refine wpAnyH_take (i := 7) (oi := ⟨some 219, _, _, _, _, _⟩) (v := ?_) rfl (by kernel_rfl) (by kernel_rfl) (by kernel_rfl) (fun _ _ _ h => h) (Or.inl ⟨by kernel_rfl, ?_⟩) hHeld ?_
                rotate_left
                · intro w1 hSw; (try dsimp only at hSw); go_simp <;> with_reducible rfl
                try simp only [Act.put, List.setIfInBounds_toArray, List.set_cons_zero, List.set_cons_succ]
                refine wpAnyH_take (i := 8) (oi := ⟨some 220, _, _, _, _, _⟩) (v := ?_) rfl (by kernel_rfl) (by kernel_rfl) (by kernel_rfl) (fun _ _ _ h => h) (Or.inl ⟨by kernel_rfl, ?_⟩) hHeld ?_
                rotate_left
                · intro w1 hSw; (try dsimp only at hSw); go_simp <;> with_reducible rfl
                try simp only [Act.put, List.setIfInBounds_toArray, List.set_cons_zero, List.set_cons_succ]
                refine wpAnyH_take (i := 9) (oi := ⟨some 221, _, _, _, _, _⟩) (v := ?_) rfl (by kernel_rfl) (by kernel_rfl) (by kernel_rfl) (fun _ _ _ h => h) (Or.inl ⟨by kernel_rfl, ?_⟩) hHeld ?_
                rotate_left
                · intro w1 hSw; (try dsimp only at hSw); go_simp <;> with_reducible rfl
                try simp only [Act.put, List.setIfInBounds_toArray, List.set_cons_zero, List.set_cons_succ]
                refine wpAnyH_take (i := 10) (oi := ⟨some 222, _, _, _, _, _⟩) (v := ?_) rfl (by kernel_rfl) (by kernel_rfl) (by kernel_rfl) (fun _ _ _ h => h) (Or.inl ⟨by kernel_rfl, ?_⟩) hHeld ?_
                rotate_left
                · intro w1 hSw; (try dsimp only at hSw); go_simp <;> with_reducible rfl
                try simp only [Act.put, List.setIfInBounds_toArray, List.set_cons_zero, List.set_cons_succ]
                refine wpAnyH_take (i := 11) (oi := ⟨some 223, _, _, _, _, _⟩) (v := undef) rfl (by kernel_rfl) (by kernel_rfl) (by kernel_rfl) (fun _ _ _ h => h) (Or.inr ⟨by kernel_rfl, rfl⟩) hHeld ?_
                try simp only [Act.put, List.setIfInBounds_toArray, List.set_cons_zero, List.set_cons_succ]
                refine wpAnyH_take (i := 12) (oi := ⟨some 224, _, _, _, _, _⟩) (v := undef) rfl (by kernel_rfl) (by kernel_rfl) (by kernel_rfl) (fun _ _ _ h => h) (Or.inr ⟨by kernel_rfl, rfl⟩) hHeld ?_
                try simp only [Act.put, List.setIfInBounds_toArray, List.set_cons_zero, List.set_cons_succ]
                refine wpAnyH_take (i := 13) (oi := ⟨some 225, _, _, _, _, _⟩) (v := undef) rfl (by kernel_rfl) (by kernel_rfl) (by kernel_rfl) (fun _ _ _ h => h) (Or.inr ⟨by kernel_rfl, rfl⟩) hHeld ?_
                try simp only [Act.put, List.setIfInBounds_toArray, List.set_cons_zero, List.set_cons_succ]
                refine wpAnyH_take (i := 14) (oi := ⟨some 226, _, _, _, _, _⟩) (v := undef) rfl (by kernel_rfl) (by kernel_rfl) (by kernel_rfl) (fun _ _ _ h => h) (Or.inr ⟨by kernel_rfl, rfl⟩) hHeld ?_
                try simp only [Act.put, List.setIfInBounds_toArray, List.set_cons_zero, List.set_cons_succ]
                refine wpAnyH_take (i := 15) (oi := ⟨some 227, _, _, _, _, _⟩) (v := undef) rfl (by kernel_rfl) (by kernel_rfl) (by kernel_rfl) (fun _ _ _ h => h) (Or.inr ⟨by kernel_rfl, rfl⟩) hHeld ?_
                try simp only [Act.put, List.setIfInBounds_toArray, List.set_cons_zero, List.set_cons_succ]
                refine wpAnyH_take (i := 16) (oi := ⟨some 228, _, _, _, _, _⟩) (v := undef) rfl (by kernel_rfl) (by kernel_rfl) (by kernel_rfl) (fun _ _ _ h => h) (Or.inr ⟨by kernel_rfl, rfl⟩) hHeld ?_
                try simp only [Act.put, List.setIfInBounds_toArray, List.set_cons_zero, List.set_cons_succ]
                refine wpAnyH_take (i := 17) (oi := ⟨some 229, _, _, _, _, _⟩) (v := ?_) rfl (by kernel_rfl) (by kernel_rfl) (by kernel_rfl) (fun _ _ _ h => h) (Or.inl ⟨by kernel_rfl, ?_⟩) hHeld ?_
                rotate_left
                · intro w1 hSw; (try dsimp only at hSw); go_simp <;> with_reducible rfl
                try simp only [Act.put, List.setIfInBounds_toArray, List.set_cons_zero, List.set_cons_succ]
                refine wpAnyH_take (i := 18) (oi := ⟨some 230, _, _, _, _, _⟩) (v := ?_) rfl (by kernel_rfl) (by kernel_rfl) (by kernel_rfl) (fun _ _ _ h => h) (Or.inl ⟨by kernel_rfl, ?_⟩) hHeld ?_
                rotate_left
                · intro w1 hSw; (try dsimp only at hSw); go_simp <;> with_reducible rfl
                try simp only [Act.put, List.setIfInBounds_toArray, List.set_cons_zero, List.set_cons_succ]
                refine wpAnyH_take (i := 19) (oi := ⟨some 231, _, _, _, _, _⟩) (v := ?_) rfl (by kernel_rfl) (by kernel_rfl) (by kernel_rfl) (fun _ _ _ h => h) (Or.inl ⟨by kernel_rfl, ?_⟩) hHeld ?_
                rotate_left
                · intro w1 hSw; (try dsimp only at hSw); go_simp <;> with_reducible rfl
                try simp only [Act.put, List.setIfInBounds_toArray, List.set_cons_zero, List.set_cons_succ]
                refine wpAnyH_take (i := 20) (oi := ⟨some 232, _, _, _, _, _⟩) (v := ?_) rfl (by kernel_rfl) (by kernel_rfl) (by kernel_rfl) (fun _ _ _ h => h) (Or.inl ⟨by kernel_rfl, ?_⟩) hHeld ?_
                rotate_left
                · intro w1 hSw; (try dsimp only at hSw); go_simp <;> with_reducible rfl
                try simp only [Act.put, List.setIfInBounds_toArray, List.set_cons_zero, List.set_cons_succ]
                refine wpAnyH_take (i := 21) (oi := ⟨some 233, _, _, _, _, _⟩) (v := ?_) rfl (by kernel_rfl) (by kernel_rfl) (by kernel_rfl) (fun _ _ _ h => h) (Or.inl ⟨by kernel_rfl, ?_⟩) hHeld ?_
                rotate_left
                · intro w1 hSw; (try dsimp only at hSw); go_simp <;> with_reducible rfl
                try simp only [Act.put, List.setIfInBounds_toArray, List.set_cons_zero, List.set_cons_succ]
                refine wpAnyH_take (i := 22) (oi := ⟨some 234, _, _, _, _, _⟩) (v := ?_) rfl (by kernel_rfl) (by kernel_rfl) (by kernel_rfl) (fun _ _ _ h => h) (Or.inl ⟨by kernel_rfl, ?_⟩) hHeld ?_
                rotate_left
                · intro w1 hSw; (try dsimp only at hSw); go_simp <;> with_reducible rfl
                try simp only [Act.put, List.setIfInBounds_toArray, List.set_cons_zero, List.set_cons_succ]
                refine wpAnyH_take (i := 23) (oi := ⟨some 235, _, _, _, _, _⟩) (v := ?_) rfl (by kernel_rfl) (by kernel_rfl) (by kernel_rfl) (fun _ _ _ h => h) (Or.inl ⟨by kernel_rfl, ?_⟩) hHeld ?_
                rotate_left
                · intro w1 hSw; (try dsimp only at hSw); go_simp <;> with_reducible rfl
                try simp only [Act.put, List.setIfInBounds_toArray, List.set_cons_zero, List.set_cons_succ]
                refine wpAnyH_take (i := 24) (oi := ⟨some 236, _, _, _, _, _⟩) (v := undef) rfl (by kernel_rfl) (by kernel_rfl) (by kernel_rfl) (fun _ _ _ h => h) (Or.inr ⟨by kernel_rfl, rfl⟩) hHeld ?_
                try simp only [Act.put, List.setIfInBounds_toArray, List.set_cons_zero, List.set_cons_succ]
                refine wpAnyH_take (i := 25) (oi := ⟨some 237, _, _, _, _, _⟩) (v := undef) rfl (by kernel_rfl) (by kernel_rfl) (by kernel_rfl) (fun _ _ _ h => h) (Or.inr ⟨by kernel_rfl, rfl⟩) hHeld ?_
                try simp only [Act.put, List.setIfInBounds_toArray, List.set_cons_zero, List.set_cons_succ]
                refine wpAnyH_take (i := 26) (oi := ⟨some 238, _, _, _, _, _⟩) (v := undef) rfl (by kernel_rfl) (by kernel_rfl) (by kernel_rfl) (fun _ _ _ h => h) (Or.inr ⟨by kernel_rfl, rfl⟩) hHeld ?_
                try simp only [Act.put, List.setIfInBounds_toArray, List.set_cons_zero, List.set_cons_succ]
                refine wpAnyH_take (i := 27) (oi := ⟨some 239, _, _, _, _, _⟩) (v := undef) rfl (by kernel_rfl) (by kernel_rfl) (by kernel_rfl) (fun _ _ _ h => h) (Or.inr ⟨by kernel_rfl, rfl⟩) hHeld ?_
                try simp only [Act.put, List.setIfInBounds_toArray, List.set_cons_zero, List.set_cons_succ]
                refine wpAnyH_take (i := 28) (oi := ⟨some 240, _, _, _, _, _⟩) (v := undef) rfl (by kernel_rfl) (by kernel_rfl) (by kernel_rfl) (fun _ _ _ h => h) (Or.inr ⟨by kernel_rfl, rfl⟩) hHeld ?_
                try simp only [Act.put, List.setIfInBounds_toArray, List.set_cons_zero, List.set_cons_succ]
                refine wpAnyH_take (i := 29) (oi := ⟨some 241, _, _, _, _, _⟩) (v := undef) rfl (by kernel_rfl) (by kernel_rfl) (by kernel_rfl) (fun _ _ _ h => h) (Or.inr ⟨by kernel_rfl, rfl⟩) hHeld ?_
                try simp only [Act.put, List.setIfInBounds_toArray, List.set_cons_zero, List.set_cons_succ]
                refine wpAnyH_take (i := 30) (oi := ⟨some 242, _, _, _, _, _⟩) (v := undef) rfl (by kernel_rfl) (by kernel_rfl) (by kernel_rfl) (fun _ _ _ h => h) (Or.inr ⟨by kernel_rfl, rfl⟩) hHeld ?_
                try simp only [Act.put, List.setIfInBounds_toArray, List.set_cons_zero, List.set_cons_succ]
                refine wpAnyH_take (i := 31) (oi := ⟨some 243, _, _, _, _, _⟩) (v := ?_) rfl (by kernel_rfl) (by kernel_rfl) (by kernel_rfl) (fun _ _ _ h => h) (Or.inl ⟨by kernel_rfl, ?_⟩) hHeld ?_
                rotate_left
                · intro w1 hSw; (try dsimp only at hSw); go_simp <;> with_reducible rfl
                try simp only [Act.put, List.setIfInBounds_toArray, List.set_cons_zero, List.set_cons_succ]
                refine wpAnyH_take (i := 32) (oi := ⟨some 244, _, _, _, _, _⟩) (v := ?_) rfl (by kernel_rfl) (by kernel_rfl) (by kernel_rfl) (fun _ _ _ h => h) (Or.inl ⟨by kernel_rfl, ?_⟩) hHeld ?_
                rotate_left
                · intro w1 hSw; (try dsimp only at hSw); go_simp <;> with_reducible rfl
                try simp only [Act.put, List.setIfInBounds_toArray, List.set_cons_zero, List.set_cons_succ]
                refine wpAnyH_done (by kernel_rfl) ?_ _
                go_wp2_with fail
                go_roundg (LL.length - (i + 1))
                case measure => omega
                case rel => exact ⟨i + 1, by omega, rfl, HB5.out.trans (hHeld.mono HB5.out.size)⟩
              · as_aux_lemma =>
                have g1 : decide (i < wh) = false := decide_eq_false (by omega)
                have g2 : decide ((i : Int) < (wh : Int)) = false := decide_eq_false (by omega)
                have g3 : decide (wh < i) = true := decide_eq_true hw
                have g4 : decide ((wh : Int) < (i : Int)) = true := decide_eq_true (by omega)
                obtain ⟨m, hm⟩ : ∃ m, i - 1 = m := ⟨_, rfl⟩
                obtain ⟨b6, o6, hA6, hk⟩ := tri_cells (HPB.out.below HB5.out) ((uT_high LL hwl hw hlt).trans (congrArg some HMK.out))
                rw [hm] at hk
                subst hA6
                have HK := Lib.hid hk
                have hm1 : (m : Int) < (m1 : Int) := by have := HM.out; omega
                have hw1 : IntKind.i64.wrap (m : Int) = (m : Int) := by rw [IntWalk.i64_in _ (by omega)]
                have hw2 : (i : Int) - 1 = (m : Int) := by omega
                clear hk hm
                refine wp_region_held_drew (S := fun V => Below W5.heap.size W5 V) (by kernel_rfl) ?_ (fun hHeld => ?_)
                · exact (Below.refl _ _).drew
                refine wpAnyH_take (i := 0) (oi := ⟨some 212, _, _, _, _, _⟩) (v := ?_) rfl (by kernel_rfl) (by kernel_rfl) (by kernel_rfl) (fun _ _ _ h => h) (Or.inl ⟨by kernel_rfl, ?_⟩) hHeld ?_
                rotate_left
                · intro w1 hSw; (try dsimp only at hSw); go_simp <;> with_reducible rfl
                try simp only [Act.put, List.setIfInBounds_toArray, List.set_cons_zero, List.set_cons_succ]
                refine wpAnyH_take (i := 1) (oi := ⟨some 213, _, _, _, _, _⟩) (v := ?_) rfl (by kernel_rfl) (by kernel_rfl) (by kernel_rfl) (fun _ _ _ h => h) (Or.inl ⟨by kernel_rfl, ?_⟩) hHeld ?_
                rotate_left
                · intro w1 hSw; (try dsimp only at hSw); go_simp <;> with_reducible rfl
                try simp only [Act.put, List.setIfInBounds_toArray, List.set_cons_zero, List.set_cons_succ]
                refine wpAnyH_take (i := 2) (oi := ⟨some 214, _, _, _, _, _⟩) (v := ?_) rfl (by kernel_rfl) (by kernel_rfl) (by kernel_rfl) (fun _ _ _ h => h) (Or.inl ⟨by kernel_rfl, ?_⟩) hHeld ?_
                rotate_left
                · intro w1 hSw; (try dsimp only at hSw); go_simp <;> with_reducible rfl
                try simp only [Act.put, List.setIfInBounds_toArray, List.set_cons_zero, List.set_cons_succ]
                refine wpAnyH_take (i := 3) (oi := ⟨some 215, _, _, _, _, _⟩) (v := .agg (pkL i xa xb xc).toArray) rfl (by kernel_rfl) (by kernel_rfl) (by kernel_rfl) (fun _ _ _ h => h) (Or.inl ⟨by kernel_rfl, fun V hV => ex_pk _ rfl b2 (o2 + i * 11) rfl (HD.out V hV)⟩) hHeld ?_
                try simp only [Act.put, List.setIfInBounds_toArray, List.set_cons_zero, List.set_cons_succ]
                refine wpAnyH_take (i := 4) (oi := ⟨some 216, _, _, _, _, _⟩) (v := .agg (pkL i xa xb xc).toArray) rfl (by kernel_rfl) (by kernel_rfl) (by kernel_rfl) (fun _ _ _ h => h) (Or.inl ⟨by kernel_rfl, fun V hV => ex_row2 59 _ rfl gp rfl 59 (pkL i xa xb xc) _ Tryz.underlying59 rfl (by kernel_rfl) (HRP.out.old hV)⟩) hHeld ?_
                try simp only [Act.put, List.setIfInBounds_toArray, List.set_cons_zero, List.set_cons_succ]
                refine wpAnyH_take (i := 5) (oi := ⟨some 217, _, _, _, _, _⟩) (v := .bool false) rfl (by kernel_rfl) (by kernel_rfl) (by kernel_rfl) (fun _ _ _ h => h) (Or.inl ⟨by kernel_rfl, fun V hV => ex_neqP _ _ rfl rfl rfl bxa bxb bxc⟩) hHeld ?_
                try simp only [Act.put, List.setIfInBounds_toArray, List.set_cons_zero, List.set_cons_succ]
                refine wpAnyH_take (i := 6) (oi := ⟨some 218, _, _, _, _, _⟩) (v := ?_) rfl (by kernel_rfl) (by kernel_rfl) (by kernel_rfl) (fun _ _ _ h => h) (Or.inl ⟨by kernel_rfl, ?_⟩) hHeld ?_
                rotate_left
                · intro w1 hSw; (try dsimp only at hSw); go_simp <;> with_reducible rfl
                try simp only [Act.put, List.setIfInBounds_toArray, List.set_cons_zero, List.set_cons_succ]
                refine wpAnyH_take (i := 7) (oi := ⟨some 219, _, _, _, _, _⟩) (v := ?_) rfl (by kernel_rfl) (by kernel_rfl) (by kernel_rfl) (fun _ _ _ h => h) (Or.inl ⟨by kernel_rfl, ?_⟩) hHeld ?_
                rotate_left
                · intro w1 hSw; (try dsimp only at hSw); go_simp <;> with_reducible rfl
                try simp only [Act.put, List.setIfInBounds_toArray, List.set_cons_zero, List.set_cons_succ]
                refine wpAnyH_take (i := 8) (oi := ⟨some 220, _, _, _, _, _⟩) (v := ?_) rfl (by kernel_rfl) (by kernel_rfl) (by kernel_rfl) (fun _ _ _ h => h) (Or.inl ⟨by kernel_rfl, ?_⟩) hHeld ?_
                rotate_left
                · intro w1 hSw; (try dsimp only at hSw); go_simp <;> with_reducible rfl
                try simp only [Act.put, List.setIfInBounds_toArray, List.set_cons_zero, List.set_cons_succ]
                refine wpAnyH_take (i := 9) (oi := ⟨some 221, _, _, _, _, _⟩) (v := ?_) rfl (by kernel_rfl) (by kernel_rfl) (by kernel_rfl) (fun _ _ _ h => h) (Or.inl ⟨by kernel_rfl, ?_⟩) hHeld ?_
                rotate_left
                · intro w1 hSw; (try dsimp only at hSw); go_simp <;> with_reducible rfl
                try simp only [Act.put, List.setIfInBounds_toArray, List.set_cons_zero, List.set_cons_succ]
                refine wpAnyH_take (i := 10) (oi := ⟨some 222, _, _, _, _, _⟩) (v := ?_) rfl (by kernel_rfl) (by kernel_rfl) (by kernel_rfl) (fun _ _ _ h => h) (Or.inl ⟨by kernel_rfl, ?_⟩) hHeld ?_
                rotate_left
                · intro w1 hSw; (try dsimp only at hSw); go_simp <;> with_reducible rfl
                try simp only [Act.put, List.setIfInBounds_toArray, List.set_cons_zero, List.set_cons_succ]
                refine wpAnyH_take (i := 11) (oi := ⟨some 223, _, _, _, _, _⟩) (v := undef) rfl (by kernel_rfl) (by kernel_rfl) (by kernel_rfl) (fun _ _ _ h => h) (Or.inr ⟨by kernel_rfl, rfl⟩) hHeld ?_
                try simp only [Act.put, List.setIfInBounds_toArray, List.set_cons_zero, List.set_cons_succ]
                refine wpAnyH_take (i := 12) (oi := ⟨some 224, _, _, _, _, _⟩) (v := undef) rfl (by kernel_rfl) (by kernel_rfl) (by kernel_rfl) (fun _ _ _ h => h) (Or.inr ⟨by kernel_rfl, rfl⟩) hHeld ?_
                try simp only [Act.put, List.setIfInBounds_toArray, List.set_cons_zero, List.set_cons_succ]
                refine wpAnyH_take (i := 13) (oi := ⟨some 225, _, _, _, _, _⟩) (v := undef) rfl (by kernel_rfl) (by kernel_rfl) (by kernel_rfl) (fun _ _ _ h => h) (Or.inr ⟨by kernel_rfl, rfl⟩) hHeld ?_
                try simp only [Act.put, List.setIfInBounds_toArray, List.set_cons_zero, List.set_cons_succ]
                refine wpAnyH_take (i := 14) (oi := ⟨some 226, _, _, _, _, _⟩) (v := undef) rfl (by kernel_rfl) (by kernel_rfl) (by kernel_rfl) (fun _ _ _ h => h) (Or.inr ⟨by kernel_rfl, rfl⟩) hHeld ?_
                try simp only [Act.put, List.setIfInBounds_toArray, List.set_cons_zero, List.set_cons_succ]
                refine wpAnyH_take (i := 15) (oi := ⟨some 227, _, _, _, _, _⟩) (v := undef) rfl (by kernel_rfl) (by kernel_rfl) (by kernel_rfl) (fun _ _ _ h => h) (Or.inr ⟨by kernel_rfl, rfl⟩) hHeld ?_
                try simp only [Act.put, List.setIfInBounds_toArray, List.set_cons_zero, List.set_cons_succ]
                refine wpAnyH_take (i := 16) (oi := ⟨some 228, _, _, _, _, _⟩) (v := undef) rfl (by kernel_rfl) (by kernel_rfl) (by kernel_rfl) (fun _ _ _ h => h) (Or.inr ⟨by kernel_rfl, rfl⟩) hHeld ?_
                try simp only [Act.put, List.setIfInBounds_toArray, List.set_cons_zero, List.set_cons_succ]
                refine wpAnyH_take (i := 17) (oi := ⟨some 229, _, _, _, _, _⟩) (v := ?_) rfl (by kernel_rfl) (by kernel_rfl) (by kernel_rfl) (fun _ _ _ h => h) (Or.inl ⟨by kernel_rfl, ?_⟩) hHeld ?_
                rotate_left
                · intro w1 hSw; (try dsimp only at hSw); go_simp <;> with_reducible rfl
                try simp only [Act.put, List.setIfInBounds_toArray, List.set_cons_zero, List.set_cons_succ]
                refine wpAnyH_take (i := 18) (oi := ⟨some 230, _, _, _, _, _⟩) (v := ?_) rfl (by kernel_rfl) (by kernel_rfl) (by kernel_rfl) (fun _ _ _ h => h) (Or.inl ⟨by kernel_rfl, ?_⟩) hHeld ?_
                rotate_left
                · intro w1 hSw; (try dsimp only at hSw); go_simp <;> with_reducible rfl
                try simp only [Act.put, List.setIfInBounds_toArray, List.set_cons_zero, List.set_cons_succ]
                refine wpAnyH_take (i := 19) (oi := ⟨some 231, _, _, _, _, _⟩) (v := ?_) rfl (by kernel_rfl) (by kernel_rfl) (by kernel_rfl) (fun _ _ _ h => h) (Or.inl ⟨by kernel_rfl, ?_⟩) hHeld ?_
                rotate_left
                · intro w1 hSw; (try dsimp only at hSw); go_simp <;> with_reducible rfl
                try simp only [Act.put, List.setIfInBounds_toArray, List.set_cons_zero, List.set_cons_succ]
                refine wpAnyH_take (i := 20) (oi := ⟨some 232, _, _, _, _, _⟩) (v := ?_) rfl (by kernel_rfl) (by kernel_rfl) (by kernel_rfl) (fun _ _ _ h => h) (Or.inl ⟨by kernel_rfl, ?_⟩) hHeld ?_
                rotate_left
                · intro w1 hSw; (try dsimp only at hSw); go_simp <;> with_reducible rfl
                try simp only [Act.put, List.setIfInBounds_toArray, List.set_cons_zero, List.set_cons_succ]
                refine wpAnyH_take (i := 21) (oi := ⟨some 233, _, _, _, _, _⟩) (v := ?_) rfl (by kernel_rfl) (by kernel_rfl) (by kernel_rfl) (fun _ _ _ h => h) (Or.inl ⟨by kernel_rfl, ?_⟩) hHeld ?_
                rotate_left
                · intro w1 hSw; (try dsimp only at hSw); go_simp <;> with_reducible rfl
                try simp only [Act.put, List.setIfInBounds_toArray, List.set_cons_zero, List.set_cons_succ]
                refine wpAnyH_take (i := 22) (oi := ⟨some 234, _, _, _, _, _⟩) (v := ?_) rfl (by kernel_rfl) (by kernel_rfl) (by kernel_rfl) (fun _ _ _ h => h) (Or.inl ⟨by kernel_rfl, ?_⟩) hHeld ?_
                rotate_left
                · intro w1 hSw; (try dsimp only at hSw); go_simp <;> with_reducible rfl
                try simp only [Act.put, List.setIfInBounds_toArray, List.set_cons_zero, List.set_cons_succ]
                refine wpAnyH_take (i := 23) (oi := ⟨some 235, _, _, _, _, _⟩) (v := ?_) rfl (by kernel_rfl) (by kernel_rfl) (by kernel_rfl) (fun _ _ _ h => h) (Or.inl ⟨by kernel_rfl, ?_⟩) hHeld ?_
                rotate_left
                · intro w1 hSw; (try dsimp only at hSw); go_simp <;> with_reducible rfl
                try simp only [Act.put, List.setIfInBounds_toArray, List.set_cons_zero, List.set_cons_succ]
                refine wpAnyH_take (i := 24) (oi := ⟨some 236, _, _, _, _, _⟩) (v := ?_) rfl (by kernel_rfl) (by kernel_rfl) (by kernel_rfl) (fun _ _ _ h => h) (Or.inl ⟨by kernel_rfl, ?_⟩) hHeld ?_
                rotate_left
                · intro w1 hSw; (try dsimp only at hSw); go_simp <;> with_reducible rfl
                try simp only [Act.put, List.setIfInBounds_toArray, List.set_cons_zero, List.set_cons_succ]
                refine wpAnyH_take (i := 25) (oi := ⟨some 237, _, _, _, _, _⟩) (v := ?_) rfl (by kernel_rfl) (by kernel_rfl) (by kernel_rfl) (fun _ _ _ h => h) (Or.inl ⟨by kernel_rfl, ?_⟩) hHeld ?_
                rotate_left
                · intro w1 hSw; (try dsimp only at hSw); go_simp <;> with_reducible rfl
                try simp only [Act.put, List.setIfInBounds_toArray, List.set_cons_zero, List.set_cons_succ]
                refine wpAnyH_take (i := 26) (oi := ⟨some 238, _, _, _, _, _⟩) (v := ?_) rfl (by kernel_rfl) (by kernel_rfl) (by kernel_rfl) (fun _ _ _ h => h) (Or.inl ⟨by kernel_rfl, ?_⟩) hHeld ?_
                rotate_left
                · intro w1 hSw; (try dsimp only at hSw); go_simp <;> with_reducible rfl
                try simp only [Act.put, List.setIfInBounds_toArray, List.set_cons_zero, List.set_cons_succ]
                refine wpAnyH_take (i := 27) (oi := ⟨some 239, _, _, _, _, _⟩) (v := ?_) rfl (by kernel_rfl) (by kernel_rfl) (by kernel_rfl) (fun _ _ _ h => h) (Or.inl ⟨by kernel_rfl, ?_⟩) hHeld ?_
                rotate_left
                · intro w1 hSw; (try dsimp only at hSw); go_simp <;> with_reducible rfl
                try simp only [Act.put, List.setIfInBounds_toArray, List.set_cons_zero, List.set_cons_succ]
                refine wpAnyH_take (i := 28) (oi := ⟨some 240, _, _, _, _, _⟩) (v := .agg (pkL i xa xb xc).toArray) rfl (by kernel_rfl) (by kernel_rfl) (by kernel_rfl) (fun _ _ _ h => h) (Or.inl ⟨by kernel_rfl, fun V hV => ex_pk _ rfl b6 (o6 + m * 11) rfl (HK.out V hV)⟩) hHeld ?_
                try simp only [Act.put, List.setIfInBounds_toArray, List.set_cons_zero, List.set_cons_succ]
                refine wpAnyH_take (i := 29) (oi := ⟨some 241, _, _, _, _, _⟩) (v := .agg (pkL i xa xb xc).toArray) rfl (by kernel_rfl) (by kernel_rfl) (by kernel_rfl) (fun _ _ _ h => h) (Or.inl ⟨by kernel_rfl, fun V hV => ex_row2 59 _ rfl gp rfl 59 (pkL i xa xb xc) _ Tryz.underlying59 rfl (by kernel_rfl) (HRP.out.old hV)⟩) hHeld ?_
                try simp only [Act.put, List.setIfInBounds_toArray, List.set_cons_zero, List.set_cons_succ]
                refine wpAnyH_take (i := 30) (oi := ⟨some 242, _, _, _, _, _⟩) (v := .bool false) rfl (by kernel_rfl) (by kernel_rfl) (by kernel_rfl) (fun _ _ _ h => h) (Or.inl ⟨by kernel_rfl, fun V hV => ex_neqP _ _ rfl rfl rfl bxa bxb bxc⟩) hHeld ?_
                try simp only [Act.put, List.setIfInBounds_toArray, List.set_cons_zero, List.set_cons_succ]
                refine wpAnyH_take (i := 31) (oi := ⟨some 243, _, _, _, _, _⟩) (v := ?_) rfl (by kernel_rfl) (by kernel_rfl) (by kernel_rfl) (fun _ _ _ h => h) (Or.inl ⟨by kernel_rfl, ?_⟩) hHeld ?_
                rotate_left
                · intro w1 hSw; (try dsimp only at hSw); go_simp <;> with_reducible rfl
                try simp only [Act.put, List.setIfInBounds_toArray, List.set_cons_zero, List.set_cons_succ]
                refine wpAnyH_take (i := 32) (oi := ⟨some 244, _, _, _, _, _⟩) (v := ?_) rfl (by kernel_rfl) (by kernel_rfl) (by kernel_rfl) (fun _ _ _ h => h) (Or.inl ⟨by kernel_rfl, ?_⟩) hHeld ?_
                rotate_left
                · intro w1 hSw; (try dsimp only at hSw); go_simp <;> with_reducible rfl
                try simp only [Act.put, List.setIfInBounds_toArray, List.set_cons_zero, List.set_cons_succ]
                refine wpAnyH_done (by kernel_rfl) ?_ _
                go_wp2_with fail
                go_roundg (LL.length - (i + 1))
                case measure => omega
                case rel => exact ⟨i + 1, by omega, rfl, HB5.out.trans (hHeld.mono HB5.out.size)⟩
            · obtain rfl : i = LL.length := by omega
              obtain ⟨fF, hfF⟩ : ∃ fF, fF = enF [k0, k1, k2, k3, k4, k5, k6, k7] (mkT LL wh).1 (mkT LL wh).2.1 (mkT LL wh).2.2.1 (mkT LL wh).2.2.2 := ⟨_, rfl⟩
              rw [← hfF] at HR14
              have HFF := Lib.hid hfF
              have hq : FoQ w [.int .u8 k0, .int .u8 k1, .int .u8 k2, .int .u8 k3, .int .u8 k4, .int .u8 k5, .int .u8 k6, .int .u8 k7] [.slice B ot0.length mc, .int .u8 (wh8 : Int), .int .u8 (at8 : Int), .int .u8 (by8 : Int)] A LL B ot0 g14 fF wr := ⟨HF.out.keep hb.out, HR14.out.old hb.out⟩
              have HQ := Lib.hid hq; have HR13' := Lib.hid (HR13.out.below hb.out); have HPA' := Lib.hid (HPA.out.below hb.out); have HPB' := Lib.hid (HPB.out.below hb.out)
              clear HF HR13 HR14 HPA HPB hb hfF hq
              have HR13 := HR13'; have HPA := HPA'; have HPB := HPB'
              clear HR13' HPA' HPB'
              obtain ⟨W5, hW5⟩ : ∃ W5 : World, W5 = wr := ⟨_, rfl⟩
              subst hW5
              obtain ⟨n8, hn8⟩ : ∃ n8, n8 = 8 * LL.length := ⟨_, rfl⟩
              have HN8 := Lib.hid hn8
              have hn40 : n8 ≤ 40 := by omega
              clear hn8
              have HAA : Hid (∀ W N8, N8 = (n8 : Int) → Rd W PA (pksC ((tT LL LL.length).map toP)) → Calls Tryz.prog 23 #[.slice PA LL.length pc, .int .i64 9, .int .i64 N8] W fun e w' => ∃ gS GA gc, e = .returned (.tuple #[.slice (some ⟨gS, 0, none⟩) n8 n8, .slice GA 0 gc, .int .i64 0]) ∧ Row w' gS 56 (flts ((List.range n8).map (whS LL))) ∧ Below W.heap.size W w') := fun W N8 h1 h2 => asmA_law LL LL.length ‹_› h5 n8 HN8.out N8 h1 PA pc W h2
              have HAB : Hid (∀ W N8, N8 = (n8 : Int) → Rd W PB (pksC ((uT LL wh LL.length).map toP)) → Calls Tryz.prog 23 #[.slice PB m1 pcb, .int .i64 9, .int .i64 N8] W fun e w' => ∃ gS GA gc, e = .returned (.tuple #[.slice (some ⟨gS, 0, none⟩) n8 n8, .slice GA 1 gc, .int .i64 0]) ∧ Row w' gS 56 (flts ((List.range n8).map (paS LL wh))) ∧ Rd w' GA (spanC [(8 * (wh : Int), 8 * (wh : Int) + 8)]) ∧ Below W.heap.size W w') := fun W N8 h1 h2 => asmB_law LL LL.length wh m1 hwl (by have := HM.out; omega) h5 n8 HN8.out N8 h1 PB pcb W h2
              go_upto_region 47 with (go_at_call 23; refine (HAA.out _ _ (by have := HN8.out; omega) HPA.out).mono ?_; rintro e w1 ⟨gS, GA, gc, rfl, hrs, hb1⟩; have HRS := Lib.hid hrs; have HB1 := Lib.hid hb1; clear hrs hb1)
              go_upto_region 48 with (go_at_call 23; refine (HAB.out _ _ (by have := HN8.out; omega) (HPB.out.below HB1.out)).mono ?_; rintro e w2 ⟨gT, GB, gd, rfl, hrt, hsp, hb2⟩; have HRT := Lib.hid hrt; have HSP := Lib.hid hsp; have HB2 := Lib.hid hb2; clear hrt hsp hb2)
              have HQ' := Lib.hid ((HQ.out.keep HB1.out).keep HB2.out); have HR13' := Lib.hid ((HR13.out.below HB1.out).below HB2.out); have HRS' := Lib.hid (HRS.out.old HB2.out)
              clear HQ HR13 HRS HB1 HB2 HPA HPB HAA HAB
              have HQ := HQ'; have HR13 := HR13'; have HRS := HRS'
              clear HQ' HR13' HRS'
              obtain ⟨W6, hW6⟩ : ∃ W6 : World, W6 = w2 := ⟨_, rfl⟩
              subst hW6
              go_cut [301] from 264 to 302 (fun s301 wx => s301 = .bool false ∧ Below W6.heap.size W6 wx)
              case first => as_aux_lemma =>
                have l1 : ((n8 : Int) != 8 * (LL.length : Int)) = false := by rw [bne_eq_false_iff_eq]; have := HN8.out; omega
                have HSS : Hid (∀ W g, Rd W (some ⟨g, 0, none⟩) (spanC [(8 * (wh : Int), 8 * (wh : Int) + 8)]) → Rd W GB (spanC [(8 * (wh : Int), 8 * (wh : Int) + 8)]) → Calls Tryz.prog 22 #[.slice GB 1 gd, .slice (some ⟨g, 0, none⟩) 1 1] W fun e w' => e = .returned (.bool true) ∧ Below W.heap.size W w') := fun W g h1 h2 => by
                  refine (sameSpans_any GB _ 1 1 gd 1 [(8 * (wh : Int), 8 * (wh : Int) + 8)] [(8 * (wh : Int), 8 * (wh : Int) + 8)] W h2 h1 rfl rfl (by simp)).mono ?_
                  rintro e w' ⟨rfl, q, rfl⟩
                  exact ⟨by rw [sameSp_refl], below_dn _ _ _⟩
                go_wp2_with (go_at_call 22; refine (HSS.out _ _ (Rd.new _ _ _ _ rfl) (HSP.out.below ((Below.refl _ _).alloc (Nat.le_refl _) _))).mono ?_; rintro e w1 ⟨rfl, hb1⟩; have HB1 := Lib.hid hb1; clear hb1)
                go_meet
                exact ⟨rfl, ((Below.refl W6.heap.size W6).alloc (Nat.le_refl _) _).trans (HB1.out.mono (by simp))⟩
              case rest =>
              obtain ⟨rfl, hb⟩ := hcut
              have HQ' := Lib.hid (HQ.out.keep hb); have HR13' := Lib.hid (HR13.out.below hb); have HRS' := Lib.hid (HRS.out.old hb); have HRT' := Lib.hid (HRT.out.old hb)
              clear HQ HR13 HRS HRT HSP hb
              have HQ := HQ'; have HR13 := HR13'; have HRS := HRS'; have HRT := HRT'
              clear HQ' HR13' HRS' HRT'
              obtain ⟨W7, hW7⟩ : ∃ W7 : World, W7 = wc := ⟨_, rfl⟩
              subst hW7
              go_wp2_with fail
              go_loopg [304] n8 (fun g s304 wx => ∃ i : Nat, i + g = n8 ∧ s304 = .int .i64 i ∧ Hid (Below W7.heap.size W7 wx))
              case atStart => exact ⟨0, by omega, rfl, Below.refl _ _⟩
              case round =>
                obtain ⟨i, hi, rfl, hb⟩ := hrel
                by_cases hlt : i < n8
                · as_aux_lemma =>
                  obtain ⟨d, hd⟩ : ∃ d, d = i / 8 := ⟨_, rfl⟩
                  obtain ⟨m, hm⟩ : ∃ m, m = i % 8 := ⟨_, rfl⟩
                  have hm8 : m < 8 := by omega
                  have hdl : d < LL.length := by have := HN8.out; omega
                  obtain ⟨xa, xb, xc, hmk⟩ : ∃ xa xb xc, mkT LL d = (d, xa, xb, xc) := ⟨_, _, _, rfl⟩
                  obtain ⟨b3, o3, hA3, hc⟩ := tri_cells HR13.out ((tT_get LL hdl).trans (congrArg some hmk))
                  subst hA3
                  obtain ⟨x, hx⟩ : ∃ x, x = whS LL i := ⟨_, rfl⟩
                  have hx2 : (pkX xa xb xc).getD m 0 = x := by rw [hx]; unfold whS; rw [← hd, ← hm, hmk]
                  have c3 := hc wr hb.out _ _ (pkL_samp d xa xb xc hm8)
                  rw [hx2, ← Nat.add_assoc] at c3
                  have hr1 : i < (List.range n8).length := by simpa using hlt
                  have c1 : wr.cell? ⟨gS, i, none⟩ = some (.float .f32 x) := by rw [(HRS.out.old hb.out).cell, flts, List.getElem?_map, List.getElem?_map, List.getElem?_range hlt, hx]; rfl
                  have c2 : wr.cell? ⟨gT, i, none⟩ = some (.float .f32 (paS LL wh i)) := by rw [(HRT.out.old hb.out).cell, flts, List.getElem?_map, List.getElem?_map, List.getElem?_range hlt]; rfl
                  have os : (FloatKind.f32.format.order x x != some .eq) = false := by rw [bne, order_self (by rw [hx]; exact whS_samp LL i)]; rfl
                  have o0 : (FloatKind.f32.format.order 0 0 != some .eq) = false := by kernel_rfl
                  have q1 : (i : Int) / 8 = (d : Int) := by omega
                  have q2 : (i : Int).tdiv 8 = (d : Int) := by rw [Int.tdiv_eq_ediv_of_nonneg (by omega)]; omega
                  have q3 : IntKind.i64.wrap (d : Int) = (d : Int) := by rw [IntWalk.i64_in _ (by omega)]
                  have r1 : (i : Int) % 8 = (m : Int) := by omega
                  have r2 : (i : Int).tmod 8 = (m : Int) := by rw [Int.tmod_eq_emod_of_nonneg (by omega)]; omega
                  have hi1 : (i : Int) < (n8 : Int) := by omega
                  have hi2 : (d : Int) < (LL.length : Int) := by omega
                  have hi3 : (m : Int) < 8 := by omega
                  by_cases hdw : d = wh
                  · have e0 : paS LL wh i = 0 := by unfold paS; rw [← hd, if_pos hdw]
                    rw [e0] at c2
                    have g1 : ((d : Int) != (wh : Int)) = false := by rw [bne_eq_false_iff_eq]; omega
                    have g2 : ((d : Int) == (wh : Int)) = true := by rw [beq_iff_eq]; omega
                    clear hc hx hx2 hd hm hmk e0 hdw hr1
                    go_upto_region 53 with fail
                    go_quiet (fail)
                    all_goals
                      go_wp2_with fail
                      go_roundg (n8 - (i + 1))
                      case measure => omega
                      case rel => exact ⟨i + 1, by omega, rfl, below_drewN hb.out _⟩
                  · have e0 : paS LL wh i = x := by unfold paS; rw [← hd, if_neg hdw, hx]
                    rw [e0] at c2
                    have g1 : ((d : Int) != (wh : Int)) = true := by rw [bne_iff_ne]; omega
                    have g2 : ((d : Int) == (wh : Int)) = false := by rw [beq_eq_false_iff_ne]; omega
                    clear hc hx hx2 hd hm hmk e0 hdw hr1
                    go_upto_region 53 with fail
                    go_quiet (fail)
                    all_goals
                      go_wp2_with fail
                      go_roundg (n8 - (i + 1))
                      case measure => omega
                      case rel => exact ⟨i + 1, by omega, rfl, below_drewN hb.out _⟩
                · obtain rfl : i = n8 := by omega
                  have hq := HQ.out.keep hb.out
                  have HQ' := Lib.hid hq
                  clear HQ HR13 HRS HRT hb hq HN8
                  have HQ := HQ'
                  clear HQ'
                  obtain ⟨a29, ha29⟩ : ∃ a29, a29 = at8 % 29 := ⟨_, rfl⟩
                  obtain ⟨b1, hb1⟩ : ∃ b1, b1 = by8 % 255 := ⟨_, rfl⟩
                  obtain ⟨bb, hbb⟩ : ∃ bb, bb = 1 + b1 := ⟨_, rfl⟩
                  have ha28 : a29 < 29 := by omega
                  have hbb1 : 1 ≤ bb := by omega
                  have hbb2 : bb ≤ 255 := by omega
                  have t1 : (at8 : Int) % 29 = (a29 : Int) := by omega
                  have t2 : (at8 : Int).tmod 29 = (a29 : Int) := by rw [Int.tmod_eq_emod_of_nonneg (by omega)]; omega
                  have t3 : (by8 : Int) % 255 = (b1 : Int) := by omega
                  have t4 : (by8 : Int).tmod 255 = (b1 : Int) := by rw [Int.tmod_eq_emod_of_nonneg (by omega)]; omega
                  have t5 : 1 + (b1 : Int) = (bb : Int) := by omega
                  have t6 : IntKind.i64.wrap (bb : Int) = (bb : Int) := by rw [IntWalk.i64_in _ (by omega)]
                  have HA29 := Lib.hid ha29
                  clear ha29 hb1 hbb
                  have n2 := HQ.out.1.2.1.cell 2
                  have n3 := HQ.out.1.2.1.cell 3
                  simp only [List.getElem?_cons_succ, List.getElem?_cons_zero] at n2 n3
                  go_upto_region 56 with fail
                  go_quiet (fail)
                  all_goals skip
                  clear n2 n3 t1 t2 t3 t4 t5 t6
                  obtain ⟨W9, hW9⟩ : ∃ W9 : World, W9 = wr.drewN nq := ⟨_, rfl⟩
                  have hq9 : FoQ w [.int .u8 k0, .int .u8 k1, .int .u8 k2, .int .u8 k3, .int .u8 k4, .int .u8 k5, .int .u8 k6, .int .u8 k7] [.slice B ot0.length mc, .int .u8 (wh8 : Int), .int .u8 (at8 : Int), .int .u8 (by8 : Int)] A LL B ot0 g14 fF W9 := by rw [hW9]; exact HQ.out.keep (below_dn _ _ _)
                  have HQ9 := Lib.hid hq9
                  rw [← hW9]
                  clear HQ hq9 hW9
                  have hFl : fF.length = 29 := by rw [HFF.out]; exact enF_len rfl _ _ _ _
                  have HFL := Lib.hid hFl
                  clear hFl
                  go_upto_region 58 with (first
                    | (refine wpList_load_row rfl 53 _ rfl g14 rfl 53 (byts fF).toArray (0, 0) _ HQ9.out.2 Tryz.underlying53 rfl ?_ ?_; (rw [info51]; simp [byts, HFL.out]))
                    | (refine wpList_store_row rfl 53 _ _ rfl W9.heap.size (byts fF).toArray rfl rfl 53 _ (Row.new W9 53 (byts z29B)) ?_ ?_ ?_ ?_; (rw [info51]; simp [byts, HFL.out]); (simp [byts, HFL.out, z29B]); (simp [byts, Value.oneCell'])))
                  have hsS : Row ((W9.alloc (.cells (byts z29B).toArray 53)).setRow W9.heap.size (byts fF).toArray) W9.heap.size 53 (byts fF) ∧ Below W9.heap.size W9 ((W9.alloc (.cells (byts z29B).toArray 53)).setRow W9.heap.size (byts fF).toArray) :=
                    ⟨(Row.new W9 53 (byts z29B)).setRow (byts fF), Below.setRow ((Below.refl _ _).alloc (Nat.le_refl _) _) (Nat.le_refl _) _⟩
                  obtain ⟨g40, hg40⟩ : ∃ g40, g40 = W9.heap.size := ⟨_, rfl⟩
                  rw [← hg40] at hsS
                  rw [← hg40]
                  have HG40 := Lib.hid hg40
                  refine genR (fun V => Row V g40 53 (byts fF) ∧ Below g40 W9 V) hsS ?_
                  clear hsS hg40
                  rintro W10 ⟨hr40, hq10⟩
                  simp only [Act.put]
                  obtain ⟨x0, hx0⟩ : ∃ x0, x0 = byteAt fF a29 := ⟨_, rfl⟩
                  have hx0b := byteAt_bd fF a29
                  rw [← hx0] at hx0b
                  have c40 : W10.cell? ⟨g40, a29, none⟩ = some (.int .u8 x0) := by rw [hr40.cell, byts_at (by rw [HFL.out]; exact ha28), hx0]
                  have fr40 := hr40.free a29
                  obtain ⟨z, hz⟩ : ∃ z : Nat, (z : Int) = (x0 + (bb : Int)) % 256 := ⟨((x0 + (bb : Int)) % 256).toNat, by omega⟩
                  have hz256 : z < 256 := by omega
                  have hzne : (z : Int) ≠ x0 := by omega
                  have y1 : (x0 + (bb : Int)) % 256 = (z : Int) := hz.symm
                  have y2 : (x0 + (bb : Int)).tmod 256 = (z : Int) := by rw [Int.tmod_eq_emod_of_nonneg (by omega)]; omega
                  have y3 : IntKind.u8.wrap (z : Int) = (z : Int) := IntWalk.u8_in _ (by omega)
                  have y4 : IntKind.i64.wrap (x0 + (bb : Int)) = x0 + (bb : Int) := by rw [IntWalk.i64_in _ (by omega)]
                  have hi29 : (a29 : Int) < 29 := by omega
                  have HR40 := Lib.hid hr40; have HB10 := Lib.hid hq10; have HX0 := Lib.hid hx0; have HZN := Lib.hid hzne
                  clear hr40 hq10 hx0 hz hzne
                  go_upto_region 59 with fail
                  clear c40 fr40 y1 y2 y3 y4
                  obtain ⟨vz, hvz⟩ : ∃ vz : UInt8, vz = UInt8.ofNat z := ⟨_, rfl⟩
                  have hvn : ((vz.toNat : Nat) : Int) = (z : Int) := by rw [hvz]; exact u8_nat hz256
                  have hsS : Row (W10.setCell ⟨g40, a29, none⟩ (.int .u8 (z : Int))) g40 53 (byts (fF.set a29 vz)) ∧ FoQ w [.int .u8 k0, .int .u8 k1, .int .u8 k2, .int .u8 k3, .int .u8 k4, .int .u8 k5, .int .u8 k6, .int .u8 k7] [.slice B ot0.length mc, .int .u8 (wh8 : Int), .int .u8 (at8 : Int), .int .u8 (by8 : Int)] A LL B ot0 g14 fF (W10.setCell ⟨g40, a29, none⟩ (.int .u8 (z : Int))) := by
                    refine ⟨?_, HQ9.out.keep (HG40.out ▸ HB10.out.setCell (Nat.le_refl _) _)⟩
                    have h := HR40.out.set a29 (.int .u8 (z : Int))
                    rw [← hvn, byts_set] at h
                    rw [← hvn]
                    exact h
                  refine genR (fun V => Row V g40 53 (byts (fF.set a29 vz)) ∧ FoQ w [.int .u8 k0, .int .u8 k1, .int .u8 k2, .int .u8 k3, .int .u8 k4, .int .u8 k5, .int .u8 k6, .int .u8 k7] [.slice B ot0.length mc, .int .u8 (wh8 : Int), .int .u8 (at8 : Int), .int .u8 (by8 : Int)] A LL B ot0 g14 fF V) hsS ?_
                  obtain ⟨fB, hfB⟩ : ∃ fB, fB = fF.set a29 vz := ⟨_, rfl⟩
                  rw [← hfB]
                  have HFB := Lib.hid hfB; have HVN := Lib.hid hvn
                  clear hsS hfB hvn hvz HQ9 HG40 HR40 HB10
                  rintro W11 ⟨hr40, hq11⟩
                  have HR40 := Lib.hid hr40; have HQ11 := Lib.hid hq11
                  clear hr40 hq11
                  obtain ⟨E, hE⟩ : ∃ E : Int, E = if a29 = 0 then 1 else 27 := ⟨_, rfl⟩
                  have HE := Lib.hid hE
                  clear hE
                  have hFBl : fB.length = 29 := by rw [HFB.out, List.length_set]; exact HFL.out
                  have HFBL := Lib.hid hFBl
                  clear hFBl
                  have HDB : Hid (∀ W, Calls Tryz.prog 20 #[.agg #[.int .u8 k0, .int .u8 k1, .int .u8 k2, .int .u8 k3, .int .u8 k4, .int .u8 k5, .int .u8 k6, .int .u8 k7], .agg (byts fB).toArray] W fun e w' => e = .returned (.tuple #[.agg zero11.toArray, .int .i64 E]) ∧ Below W.heap.size W w') := fun W => by
                    rw [HFB.out, HFF.out, HE.out]
                    exact decB_law k0 k1 k2 k3 k4 k5 k6 k7 HKEYS.out _ _ _ _ ha28 (by rw [HVN.out, ← HFF.out, ← HX0.out]; exact HZN.out) W
                  go_cut [42] from 372 to 378 (fun s42 wx => s42 = .int .i64 E ∧ Below W11.heap.size W11 wx)
                  case first => as_aux_lemma =>
                    go_wp2_with (first
                      | (refine wpList_load_row rfl 46 _ rfl w.heap.size rfl 46 #[.int .u8 k0, .int .u8 k1, .int .u8 k2, .int .u8 k3, .int .u8 k4, .int .u8 k5, .int .u8 k6, .int .u8 k7] (0, 0) _ HQ11.out.1.1 Tryz.underlying46 rfl ?_ ?_; (kernel_rfl))
                      | (refine wpList_load_row rfl 53 _ rfl g40 rfl 53 (byts fB).toArray (0, 0) _ HR40.out Tryz.underlying53 rfl ?_ ?_; (rw [info51]; simp [byts, HFBL.out]))
                      | (go_at_call 20; refine (HDB.out _).mono ?_; rintro e w1 ⟨rfl, hb1⟩; have HB1 := Lib.hid hb1; clear hb1)
                      | (refine wpList_store_row rfl 59 _ _ rfl w1.heap.size zero11.toArray rfl rfl 59 _ (Row.new w1 59 zero11) ?_ ?_ ?_ ?_; (kernel_rfl); rfl; (simp [zero11, pkC, flts, Value.oneCell'])))
                    go_meet
                    exact ⟨rfl, Below.setRow (HB1.out.alloc HB1.out.size _) HB1.out.size _⟩
                  case rest =>
                  obtain ⟨rfl, hb⟩ := hcut
                  have HQ12 := Lib.hid (HQ11.out.keep hb)
                  clear HQ11 HR40 HDB HFBL hb HFB
                  obtain ⟨W12, hW12⟩ : ∃ W12 : World, W12 = wc := ⟨_, rfl⟩
                  subst hW12
                  go_upto_region 61 with (first
                    | (refine wpList_load_row rfl 46 _ rfl w.heap.size rfl 46 #[.int .u8 k0, .int .u8 k1, .int .u8 k2, .int .u8 k3, .int .u8 k4, .int .u8 k5, .int .u8 k6, .int .u8 k7] (0, 0) _ HQ12.out.1.1 Tryz.underlying46 rfl ?_ ?_; (kernel_rfl))
                    | (refine wpList_store_row rfl 46 _ _ rfl W12.heap.size #[.int .u8 k0, .int .u8 k1, .int .u8 k2, .int .u8 k3, .int .u8 k4, .int .u8 k5, .int .u8 k6, .int .u8 k7] rfl rfl 46 _ (Row.new W12 46 zero8) ?_ ?_ ?_ ?_; (kernel_rfl); rfl; (simp [Value.oneCell'])))
                  have hsS : Row (W12.alloc (.cells #[.int .u8 k0, .int .u8 k1, .int .u8 k2, .int .u8 k3, .int .u8 k4, .int .u8 k5, .int .u8 k6, .int .u8 k7] 46)) W12.heap.size 46 [.int .u8 k0, .int .u8 k1, .int .u8 k2, .int .u8 k3, .int .u8 k4, .int .u8 k5, .int .u8 k6, .int .u8 k7] ∧ Below W12.heap.size W12 (W12.alloc (.cells #[.int .u8 k0, .int .u8 k1, .int .u8 k2, .int .u8 k3, .int .u8 k4, .int .u8 k5, .int .u8 k6, .int .u8 k7] 46)) :=
                    ⟨Row.new W12 46 [.int .u8 k0, .int .u8 k1, .int .u8 k2, .int .u8 k3, .int .u8 k4, .int .u8 k5, .int .u8 k6, .int .u8 k7], (Below.refl _ _).alloc (Nat.le_refl _) _⟩
                  obtain ⟨g43, hg43⟩ : ∃ g43, g43 = W12.heap.size := ⟨_, rfl⟩
                  rw [← hg43] at hsS
                  rw [← hg43]
                  have HG43 := Lib.hid hg43
                  refine genR (fun V => Row V g43 46 [.int .u8 k0, .int .u8 k1, .int .u8 k2, .int .u8 k3, .int .u8 k4, .int .u8 k5, .int .u8 k6, .int .u8 k7] ∧ Below g43 W12 V) hsS ?_
                  clear hsS hg43
                  rintro W13 ⟨hr43, hb13⟩
                  obtain ⟨j8, hj8⟩ : ∃ j8, j8 = at8 % 8 := ⟨_, rfl⟩
                  have hj7 : j8 < 8 := by omega
                  have t1 : (at8 : Int) % 8 = (j8 : Int) := by omega
                  have t2 : (at8 : Int).tmod 8 = (j8 : Int) := by rw [Int.tmod_eq_emod_of_nonneg (by omega)]; omega
                  have hj8i : (j8 : Int) < 8 := by omega
                  clear hj8
                  obtain ⟨kj, hkj⟩ : ∃ kj, kj = [k0, k1, k2, k3, k4, k5, k6, k7].getD j8 0 := ⟨_, rfl⟩
                  have hkjb : isByte kj := by
                    rw [hkj, List.getD_eq_getElem?_getD, List.getElem?_eq_getElem (show j8 < [k0, k1, k2, k3, k4, k5, k6, k7].length from hj7)]
                    exact HKEYS.out j8 hj7
                  have hkj0 : 0 ≤ kj := hkjb.1
                  have hkj1 : kj ≤ 255 := hkjb.2
                  have hkv : ([.int .u8 k0, .int .u8 k1, .int .u8 k2, .int .u8 k3, .int .u8 k4, .int .u8 k5, .int .u8 k6, .int .u8 k7] : List Value) = u8s [k0, k1, k2, k3, k4, k5, k6, k7] := rfl
                  have c43 : W13.cell? ⟨g43, j8, none⟩ = some (.int .u8 kj) := by
                    rw [hr43.cell, hkv, u8s, List.getElem?_map, List.getElem?_eq_getElem (show j8 < [k0, k1, k2, k3, k4, k5, k6, k7].length from hj7), hkj, List.getD_eq_getElem?_getD, List.getElem?_eq_getElem (show j8 < [k0, k1, k2, k3, k4, k5, k6, k7].length from hj7)]; rfl
                  have fr43 := hr43.free j8
                  obtain ⟨zk, hzk⟩ : ∃ zk : Int, zk = (kj + (bb : Int)) % 256 := ⟨_, rfl⟩
                  have hzk0 : 0 ≤ zk := by omega
                  have hzk1 : zk ≤ 255 := by omega
                  have hzkn : kj ≠ zk := by omega
                  have y1 : IntKind.u8.wrap (kj + (bb : Int)) = zk := by unfold IntKind.wrap; simp [IntKind.signed, IntKind.bits]; omega
                  have y2 : IntKind.u8.wrap (bb : Int) = (bb : Int) := IntWalk.u8_in _ (by omega)
                  have n2 := (HQ12.out.keep (HG43.out ▸ hb13)).1.2.1.cell 2
                  simp only [List.getElem?_cons_succ, List.getElem?_cons_zero] at n2
                  have HR43 := Lib.hid hr43; have HB13 := Lib.hid hb13; have HKJ := Lib.hid hkj; have HZK := Lib.hid hzkn
                  clear hr43 hb13 hkj hzk hzkn hkv hkjb
                  go_upto_region 62 with fail
                  clear c43 fr43 y1 y2 n2 t1 t2
                  obtain ⟨e0, e1, e2, e3, e4, e5, e6, e7, he, hkey2, hne2⟩ := key2 (K := [k0, k1, k2, k3, k4, k5, k6, k7]) rfl (keys_mem k0 k1 k2 k3 k4 k5 k6 k7 HKEYS.out) hj7 (show isByte zk from ⟨hzk0, hzk1⟩) (by rw [← HKJ.out]; exact HZK.out)
                  have hsS : Row (W13.setCell ⟨g43, j8, none⟩ (.int .u8 zk)) g43 46 [.int .u8 e0, .int .u8 e1, .int .u8 e2, .int .u8 e3, .int .u8 e4, .int .u8 e5, .int .u8 e6, .int .u8 e7] ∧ FoQ w [.int .u8 k0, .int .u8 k1, .int .u8 k2, .int .u8 k3, .int .u8 k4, .int .u8 k5, .int .u8 k6, .int .u8 k7] [.slice B ot0.length mc, .int .u8 (wh8 : Int), .int .u8 (at8 : Int), .int .u8 (by8 : Int)] A LL B ot0 g14 fF (W13.setCell ⟨g43, j8, none⟩ (.int .u8 zk)) := by
                    refine ⟨?_, HQ12.out.keep (HG43.out ▸ HB13.out.setCell (Nat.le_refl _) _)⟩
                    have h := HR43.out.set j8 (.int .u8 zk)
                    have e : ([.int .u8 k0, .int .u8 k1, .int .u8 k2, .int .u8 k3, .int .u8 k4, .int .u8 k5, .int .u8 k6, .int .u8 k7] : List Value).set j8 (.int .u8 zk) = u8s ([k0, k1, k2, k3, k4, k5, k6, k7].set j8 zk) := by unfold u8s; rw [List.map_set]; rfl
                    rw [e, he] at h
                    exact h
                  refine genR (fun V => Row V g43 46 [.int .u8 e0, .int .u8 e1, .int .u8 e2, .int .u8 e3, .int .u8 e4, .int .u8 e5, .int .u8 e6, .int .u8 e7] ∧ FoQ w [.int .u8 k0, .int .u8 k1, .int .u8 k2, .int .u8 k3, .int .u8 k4, .int .u8 k5, .int .u8 k6, .int .u8 k7] [.slice B ot0.length mc, .int .u8 (wh8 : Int), .int .u8 (at8 : Int), .int .u8 (by8 : Int)] A LL B ot0 g14 fF V) hsS ?_
                  have HKEY2 := Lib.hid hkey2; have HNE2 := Lib.hid hne2
                  clear hsS hkey2 hne2 he HQ12 HG43 HR43 HB13
                  rintro W14 ⟨hr43, hq14⟩
                  have HR43 := Lib.hid hr43; have HQ14 := Lib.hid hq14
                  clear hr43 hq14
                  have HDO : Hid (∀ W, Calls Tryz.prog 20 #[.agg #[.int .u8 e0, .int .u8 e1, .int .u8 e2, .int .u8 e3, .int .u8 e4, .int .u8 e5, .int .u8 e6, .int .u8 e7], .agg (byts fF).toArray] W fun e w' => e = .returned (.tuple #[.agg zero11.toArray, .int .i64 27]) ∧ Below W.heap.size W w') := fun W => by
                    rw [HFF.out]
                    exact decO_law k0 k1 k2 k3 k4 k5 k6 k7 HKEYS.out _ _ _ _ e0 e1 e2 e3 e4 e5 e6 e7 HKEY2.out hj7 HNE2.out W
                  go_cut [45] from 389 to 395 (fun s45 wx => s45 = .int .i64 27 ∧ Below W14.heap.size W14 wx)
                  case first => as_aux_lemma =>
                    go_wp2_with (first
                      | (refine wpList_load_row rfl 46 _ rfl g43 rfl 46 #[.int .u8 e0, .int .u8 e1, .int .u8 e2, .int .u8 e3, .int .u8 e4, .int .u8 e5, .int .u8 e6, .int .u8 e7] (0, 0) _ HR43.out Tryz.underlying46 rfl ?_ ?_; (kernel_rfl))
                      | (refine wpList_load_row rfl 53 _ rfl g14 rfl 53 (byts fF).toArray (0, 0) _ HQ14.out.2 Tryz.underlying53 rfl ?_ ?_; (rw [info51]; simp [byts, HFL.out]))
                      | (go_at_call 20; refine (HDO.out _).mono ?_; rintro e w1 ⟨rfl, hb1⟩; have HB1 := Lib.hid hb1; clear hb1)
                      | (refine wpList_store_row rfl 59 _ _ rfl w1.heap.size zero11.toArray rfl rfl 59 _ (Row.new w1 59 zero11) ?_ ?_ ?_ ?_; (kernel_rfl); rfl; (simp [zero11, pkC, flts, Value.oneCell'])))
                    go_meet
                    exact ⟨rfl, Below.setRow (HB1.out.alloc HB1.out.size _) HB1.out.size _⟩
                  case rest =>
                  obtain ⟨rfl, hb⟩ := hcut
                  have HQ15 := Lib.hid (HQ14.out.keep hb)
                  clear HQ14 HR43 HDO hb
                  obtain ⟨W15, hW15⟩ : ∃ W15 : World, W15 = wc := ⟨_, rfl⟩
                  subst hW15
                  go_upto_region 63 with fail
                  go_cut [412] from 395 to 413 (fun s412 wx => s412 = .bool false ∧ wx = W15)
                  case first => as_aux_lemma =>
                    by_cases ha0 : a29 = 0
                    · have g1 : ((a29 : Int) == 0) = true := by rw [beq_iff_eq]; omega
                      have g2 : decide (0 < a29) = false := by simp; omega
                      have g3 : decide ((0 : Int) < (a29 : Int)) = false := by simp; omega
                      obtain rfl : E = 1 := by rw [HE.out, if_pos ha0]
                      clear ha0
                      go_wp2_with fail
                      go_meet
                      exact ⟨rfl, rfl⟩
                    · have g1 : ((a29 : Int) == 0) = false := by rw [beq_eq_false_iff_ne]; omega
                      have g2 : decide (0 < a29) = true := by simp; omega
                      have g3 : decide ((0 : Int) < (a29 : Int)) = true := by simp; omega
                      obtain rfl : E = 27 := by rw [HE.out, if_neg ha0]
                      clear ha0
                      go_wp2_with fail
                      go_meet
                      exact ⟨rfl, rfl⟩
                  case rest =>
                  obtain ⟨rfl, rfl⟩ := hcut
                  obtain ⟨W16, hW16⟩ : ∃ W16 : World, W16 = wc := ⟨_, rfl⟩
                  subst hW16
                  go_upto_region 65 with fail
                  obtain ⟨L21, hL21⟩ : ∃ L21, L21 = fF.take 21 := ⟨_, rfl⟩
                  have hL21l : L21.length = 21 := by rw [hL21, List.length_take, HFL.out]; rfl
                  have HLL21 := Lib.hid hL21l
                  have HL21 := Lib.hid hL21
                  clear hL21 hL21l
                  have HBY : Hid (∀ W, Row W g14 53 (byts fF) → Calls Tryz.prog 17 #[.slice (some ⟨g14, 0, none⟩) 21 29] W fun e w' => ∃ g cap, e = .returned (.slice (some ⟨g, 0, none⟩) 21 cap) ∧ 21 ≤ cap ∧ W.heap.size ≤ g ∧ Rd w' (some ⟨g, 0, none⟩) (byts L21) ∧ (∀ j, w'.frozen? ⟨g, j, none⟩ = false) ∧ Below W.heap.size W w') := fun W h => by
                    have h1 := rd_take (Rd.row h) 21
                    rw [← HL21.out] at h1
                    have k := bytes_own L21 (by rw [HLL21.out]; omega) (by rw [HLL21.out]; omega) _ 29 (fun h => by cases h) W h1
                    rw [HLL21.out] at k
                    exact k
                  obtain ⟨LS, hLS⟩ : ∃ LS, LS = u8s (sealL [k0, k1, k2, k3, k4, k5, k6, k7] L21) := ⟨_, rfl⟩
                  have hIS : LS.length = 8 := by rw [hLS, u8s_length, seal8]; rfl
                  have hOS : ∀ v ∈ LS, v.oneCell' = true := by rw [hLS]; exact u8s_one _
                  have HSE : Hid (∀ W A c, Rd W A (byts L21) → Calls Tryz.prog 24 #[.agg #[.int .u8 k0, .int .u8 k1, .int .u8 k2, .int .u8 k3, .int .u8 k4, .int .u8 k5, .int .u8 k6, .int .u8 k7], .slice A 21 c] W fun e w' => e = .returned (.tuple #[.agg LS.toArray, .int .i64 0]) ∧ Below W.heap.size W w') := fun W A c hr => by
                    rw [hLS]
                    exact seal_any k0 k1 k2 k3 k4 k5 k6 k7 A 21 c L21 W hr HLL21.out.symm (by rw [HLL21.out]; omega) HKEYS.out
                  have IS := Lib.hid hIS; have HOS := Lib.hid hOS; have HLS := Lib.hid hLS
                  clear hIS hOS hLS
                  go_cut [46, 47] from 413 to 420 (fun s46 s47 wx => ∃ gA, s46 = .pointer (some ⟨gA, 0, none⟩) ∧ s47 = .int .i64 0 ∧ Row wx gA 46 LS ∧ Below W16.heap.size W16 wx)
                  case first => as_aux_lemma =>
                    refine wp_region_held_drew (S := fun V => Below W16.heap.size W16 V) (by kernel_rfl) ?_ (fun hHeld => ?_)
                    · exact (Below.refl _ _).drew
                    refine wpAnyH_take (i := 0) (oi := ⟨some 414, _, _, _, _, _⟩) (v := .agg #[.int .u8 k0, .int .u8 k1, .int .u8 k2, .int .u8 k3, .int .u8 k4, .int .u8 k5, .int .u8 k6, .int .u8 k7]) rfl (by kernel_rfl) (by kernel_rfl) (by kernel_rfl) (fun _ _ _ h => h) (Or.inl ⟨by kernel_rfl, fun V hSw => ex_row2 46 _ rfl w.heap.size rfl 46 [.int .u8 k0, .int .u8 k1, .int .u8 k2, .int .u8 k3, .int .u8 k4, .int .u8 k5, .int .u8 k6, .int .u8 k7] _ Tryz.underlying46 rfl (by kernel_rfl) (HQ15.out.keep hSw).1.1⟩) hHeld ?_
                    try simp only [Act.put, List.setIfInBounds_toArray, List.set_cons_zero, List.set_cons_succ]
                    refine wpAnyH_take (i := 1) (oi := ⟨some 415, _, _, _, _, _⟩) (v := ?_) rfl (by kernel_rfl) (by kernel_rfl) (by kernel_rfl) (fun _ _ _ h => h) (Or.inl ⟨by kernel_rfl, ?_⟩) hHeld ?_
                    rotate_left
                    · intro w1 hSw; (try dsimp only at hSw); go_simp <;> with_reducible rfl
                    try simp only [Act.put, List.setIfInBounds_toArray, List.set_cons_zero, List.set_cons_succ]
                    refine wpAnyH_ready (rs := [2, 7]) (by kernel_rfl) (by simp) ?_
                    refine AllReadyH.cons rfl (fun K hK => ?_) (AllReadyH.cons rfl (fun K hK => ?_) (AllReadyH.nil))
                    ·
                      go_simp
                      go_at_call 17
                      refine (HBY.out _ (HQ15.out.keep hHeld).2).mono ?_
                      rintro e w4 ⟨gB, cap, rfl, hcap, hgB, hr4, hfz, hb4⟩
                      have z4 := (hHeld.trans (hb4.mono hHeld.size)).size
                      try go_simp
                      refine hK.out _ _ ?_ (fun hHeld => ?_)
                      · exact hHeld.trans (hb4.mono hHeld.size)
                      clear hK K
                      try simp only [Act.put, List.setIfInBounds_toArray, List.set_cons_zero, List.set_cons_succ]
                      refine wpAnyH_ready (rs := [3, 7]) (by kernel_rfl) (by simp) ?_
                      refine AllReadyH.cons rfl (fun K hK => ?_) (AllReadyH.cons rfl (fun K hK => ?_) (AllReadyH.nil))
                      ·
                        go_simp
                        go_at_call 24
                        refine (HSE.out _ _ _ (by first | exact hr4 | exact hr4.below ((Below.refl _ _).alloc (Nat.le_refl _) _))).mono ?_
                        rintro e w5 ⟨rfl, hb5⟩
                        have z5 := (hHeld.trans (hb5.mono hHeld.size)).size
                        try go_simp
                        refine hK.out _ _ ?_ (fun hHeld => ?_)
                        · exact hHeld.trans (hb5.mono hHeld.size)
                        clear hK K
                        try simp only [Act.put, List.setIfInBounds_toArray, List.set_cons_zero, List.set_cons_succ]
                        refine wpAnyH_take (i := 4) (oi := ⟨some 413, _, _, _, _, _⟩) (v := ?_) rfl (by kernel_rfl) (by kernel_rfl) (by kernel_rfl) (fun _ _ _ h => h) (Or.inl ⟨by kernel_rfl, ?_⟩) hHeld ?_
                        rotate_left
                        · intro w1 hSw; (try dsimp only at hSw); go_simp <;> with_reducible rfl
                        try simp only [Act.put, List.setIfInBounds_toArray, List.set_cons_zero, List.set_cons_succ]
                        refine wpAnyH_take (i := 5) (oi := ⟨some 418, _, _, _, _, _⟩) (v := ?_) rfl (by kernel_rfl) (by kernel_rfl) (by kernel_rfl) (fun _ _ _ h => h) (Or.inl ⟨by kernel_rfl, ?_⟩) hHeld ?_
                        rotate_left
                        · intro w1 hSw; (try dsimp only at hSw); go_simp <;> with_reducible rfl
                        try simp only [Act.put, List.setIfInBounds_toArray, List.set_cons_zero, List.set_cons_succ]
                        refine wpAnyH_take (i := 6) (oi := ⟨some 419, _, _, _, _, _⟩) (v := ?_) rfl (by kernel_rfl) (by kernel_rfl) (by kernel_rfl) (fun _ _ _ h => h) (Or.inl ⟨by kernel_rfl, ?_⟩) hHeld ?_
                        rotate_left
                        · intro w1 hSw; (try dsimp only at hSw); go_simp <;> with_reducible rfl
                        try simp only [Act.put, List.setIfInBounds_toArray, List.set_cons_zero, List.set_cons_succ]
                        refine wpAnyH_ready (rs := [7]) (by kernel_rfl) (by simp) ?_
                        refine AllReadyH.cons rfl (fun K hK => ?_) (AllReadyH.nil)
                        go_simp
                        refine hK.out _ _ ?_ (fun hHeld => ?_)
                        · exact hHeld.alloc hHeld.size _
                        clear hK K
                        try simp only [Act.put, List.setIfInBounds_toArray, List.set_cons_zero, List.set_cons_succ]
                        refine wpAnyH_ready (rs := [8]) (by kernel_rfl) (by simp) ?_
                        refine AllReadyH.cons rfl (fun K hK => ?_) (AllReadyH.nil)
                        have hz := Row.new w5 46 (u8s [0, 0, 0, 0, 0, 0, 0, 0])
                        have hg : W16.heap.size ≤ w5.heap.size := z5
                        refine step_store_row rfl 46 _ _ rfl w5.heap.size LS rfl rfl 46 (u8s [0, 0, 0, 0, 0, 0, 0, 0]) hz (by rw [info47, IS.out]) (by rw [IS.out]; rfl) HOS.out ?_
                        refine hK.out _ _ ?_ (fun hHeld => ?_)
                        · exact Below.setRow hHeld hg _
                        clear hK K
                        try simp only [Act.put, List.setIfInBounds_toArray, List.set_cons_zero, List.set_cons_succ]
                        refine wpAnyH_take (i := 9) (oi := ⟨some 47, _, _, _, _, _⟩) (v := ?_) rfl (by kernel_rfl) (by kernel_rfl) (by kernel_rfl) (fun _ _ _ h => h) (Or.inl ⟨by kernel_rfl, ?_⟩) hHeld ?_
                        rotate_left
                        · intro w1 hSw; (try dsimp only at hSw); go_simp <;> with_reducible rfl
                        try simp only [Act.put, List.setIfInBounds_toArray, List.set_cons_zero, List.set_cons_succ]
                        refine wpAnyH_done (by kernel_rfl) ?_ _
                        go_wp2_with fail
                        go_meet
                        exact ⟨_, rfl, rfl, hz.setRow _, hHeld⟩
                      ·
                        go_simp
                        refine hK.out _ _ ?_ (fun hHeld => ?_)
                        · exact hHeld.alloc hHeld.size _
                        clear hK K
                        try simp only [Act.put, List.setIfInBounds_toArray, List.set_cons_zero, List.set_cons_succ]
                        refine wpAnyH_ready (rs := [3]) (by kernel_rfl) (by simp) ?_
                        refine AllReadyH.cons rfl (fun K hK => ?_) (AllReadyH.nil)
                        go_simp
                        go_at_call 24
                        refine (HSE.out _ _ _ (by first | exact hr4 | exact hr4.below ((Below.refl _ _).alloc (Nat.le_refl _) _))).mono ?_
                        rintro e w5 ⟨rfl, hb5⟩
                        have z5 := (hHeld.trans (hb5.mono hHeld.size)).size
                        try go_simp
                        refine hK.out _ _ ?_ (fun hHeld => ?_)
                        · exact hHeld.trans (hb5.mono hHeld.size)
                        clear hK K
                        try simp only [Act.put, List.setIfInBounds_toArray, List.set_cons_zero, List.set_cons_succ]
                        refine wpAnyH_take (i := 4) (oi := ⟨some 413, _, _, _, _, _⟩) (v := ?_) rfl (by kernel_rfl) (by kernel_rfl) (by kernel_rfl) (fun _ _ _ h => h) (Or.inl ⟨by kernel_rfl, ?_⟩) hHeld ?_
                        rotate_left
                        · intro w1 hSw; (try dsimp only at hSw); go_simp <;> with_reducible rfl
                        try simp only [Act.put, List.setIfInBounds_toArray, List.set_cons_zero, List.set_cons_succ]
                        refine wpAnyH_take (i := 5) (oi := ⟨some 418, _, _, _, _, _⟩) (v := ?_) rfl (by kernel_rfl) (by kernel_rfl) (by kernel_rfl) (fun _ _ _ h => h) (Or.inl ⟨by kernel_rfl, ?_⟩) hHeld ?_
                        rotate_left
                        · intro w1 hSw; (try dsimp only at hSw); go_simp <;> with_reducible rfl
                        try simp only [Act.put, List.setIfInBounds_toArray, List.set_cons_zero, List.set_cons_succ]
                        refine wpAnyH_take (i := 6) (oi := ⟨some 419, _, _, _, _, _⟩) (v := ?_) rfl (by kernel_rfl) (by kernel_rfl) (by kernel_rfl) (fun _ _ _ h => h) (Or.inl ⟨by kernel_rfl, ?_⟩) hHeld ?_
                        rotate_left
                        · intro w1 hSw; (try dsimp only at hSw); go_simp <;> with_reducible rfl
                        try simp only [Act.put, List.setIfInBounds_toArray, List.set_cons_zero, List.set_cons_succ]
                        refine wpAnyH_ready (rs := [8]) (by kernel_rfl) (by simp) ?_
                        refine AllReadyH.cons rfl (fun K hK => ?_) (AllReadyH.nil)
                        have hz := (Row.new w4 46 (u8s [0, 0, 0, 0, 0, 0, 0, 0])).old hb5
                        have hg : W16.heap.size ≤ w4.heap.size := z4
                        refine step_store_row rfl 46 _ _ rfl w4.heap.size LS rfl rfl 46 (u8s [0, 0, 0, 0, 0, 0, 0, 0]) hz (by rw [info47, IS.out]) (by rw [IS.out]; rfl) HOS.out ?_
                        refine hK.out _ _ ?_ (fun hHeld => ?_)
                        · exact Below.setRow hHeld hg _
                        clear hK K
                        try simp only [Act.put, List.setIfInBounds_toArray, List.set_cons_zero, List.set_cons_succ]
                        refine wpAnyH_take (i := 9) (oi := ⟨some 47, _, _, _, _, _⟩) (v := ?_) rfl (by kernel_rfl) (by kernel_rfl) (by kernel_rfl) (fun _ _ _ h => h) (Or.inl ⟨by kernel_rfl, ?_⟩) hHeld ?_
                        rotate_left
                        · intro w1 hSw; (try dsimp only at hSw); go_simp <;> with_reducible rfl
                        try simp only [Act.put, List.setIfInBounds_toArray, List.set_cons_zero, List.set_cons_succ]
                        refine wpAnyH_done (by kernel_rfl) ?_ _
                        go_wp2_with fail
                        go_meet
                        exact ⟨_, rfl, rfl, hz.setRow _, hHeld⟩
                    ·
                      go_simp
                      refine hK.out _ _ ?_ (fun hHeld => ?_)
                      · exact hHeld.alloc hHeld.size _
                      clear hK K
                      try simp only [Act.put, List.setIfInBounds_toArray, List.set_cons_zero, List.set_cons_succ]
                      refine wpAnyH_ready (rs := [2]) (by kernel_rfl) (by simp) ?_
                      refine AllReadyH.cons rfl (fun K hK => ?_) (AllReadyH.nil)
                      go_simp
                      go_at_call 17
                      refine (HBY.out _ (HQ15.out.keep hHeld).2).mono ?_
                      rintro e w4 ⟨gB, cap, rfl, hcap, hgB, hr4, hfz, hb4⟩
                      have z4 := (hHeld.trans (hb4.mono hHeld.size)).size
                      try go_simp
                      refine hK.out _ _ ?_ (fun hHeld => ?_)
                      · exact hHeld.trans (hb4.mono hHeld.size)
                      clear hK K
                      try simp only [Act.put, List.setIfInBounds_toArray, List.set_cons_zero, List.set_cons_succ]
                      refine wpAnyH_ready (rs := [3]) (by kernel_rfl) (by simp) ?_
                      refine AllReadyH.cons rfl (fun K hK => ?_) (AllReadyH.nil)
                      go_simp
                      go_at_call 24
                      refine (HSE.out _ _ _ (by first | exact hr4 | exact hr4.below ((Below.refl _ _).alloc (Nat.le_refl _) _))).mono ?_
                      rintro e w5 ⟨rfl, hb5⟩
                      have z5 := (hHeld.trans (hb5.mono hHeld.size)).size
                      try go_simp
                      refine hK.out _ _ ?_ (fun hHeld => ?_)
                      · exact hHeld.trans (hb5.mono hHeld.size)
                      clear hK K
                      try simp only [Act.put, List.setIfInBounds_toArray, List.set_cons_zero, List.set_cons_succ]
                      refine wpAnyH_take (i := 4) (oi := ⟨some 413, _, _, _, _, _⟩) (v := ?_) rfl (by kernel_rfl) (by kernel_rfl) (by kernel_rfl) (fun _ _ _ h => h) (Or.inl ⟨by kernel_rfl, ?_⟩) hHeld ?_
                      rotate_left
                      · intro w1 hSw; (try dsimp only at hSw); go_simp <;> with_reducible rfl
                      try simp only [Act.put, List.setIfInBounds_toArray, List.set_cons_zero, List.set_cons_succ]
                      refine wpAnyH_take (i := 5) (oi := ⟨some 418, _, _, _, _, _⟩) (v := ?_) rfl (by kernel_rfl) (by kernel_rfl) (by kernel_rfl) (fun _ _ _ h => h) (Or.inl ⟨by kernel_rfl, ?_⟩) hHeld ?_
                      rotate_left
                      · intro w1 hSw; (try dsimp only at hSw); go_simp <;> with_reducible rfl
                      try simp only [Act.put, List.setIfInBounds_toArray, List.set_cons_zero, List.set_cons_succ]
                      refine wpAnyH_take (i := 6) (oi := ⟨some 419, _, _, _, _, _⟩) (v := ?_) rfl (by kernel_rfl) (by kernel_rfl) (by kernel_rfl) (fun _ _ _ h => h) (Or.inl ⟨by kernel_rfl, ?_⟩) hHeld ?_
                      rotate_left
                      · intro w1 hSw; (try dsimp only at hSw); go_simp <;> with_reducible rfl
                      try simp only [Act.put, List.setIfInBounds_toArray, List.set_cons_zero, List.set_cons_succ]
                      refine wpAnyH_ready (rs := [8]) (by kernel_rfl) (by simp) ?_
                      refine AllReadyH.cons rfl (fun K hK => ?_) (AllReadyH.nil)
                      have hz := ((Row.new W16.drew 46 (u8s [0, 0, 0, 0, 0, 0, 0, 0])).old hb4).old hb5
                      have hg : W16.heap.size ≤ W16.heap.size := Nat.le_refl _
                      refine step_store_row rfl 46 _ _ rfl W16.heap.size LS rfl rfl 46 (u8s [0, 0, 0, 0, 0, 0, 0, 0]) hz (by rw [info47, IS.out]) (by rw [IS.out]; rfl) HOS.out ?_
                      refine hK.out _ _ ?_ (fun hHeld => ?_)
                      · exact Below.setRow hHeld hg _
                      clear hK K
                      try simp only [Act.put, List.setIfInBounds_toArray, List.set_cons_zero, List.set_cons_succ]
                      refine wpAnyH_take (i := 9) (oi := ⟨some 47, _, _, _, _, _⟩) (v := ?_) rfl (by kernel_rfl) (by kernel_rfl) (by kernel_rfl) (fun _ _ _ h => h) (Or.inl ⟨by kernel_rfl, ?_⟩) hHeld ?_
                      rotate_left
                      · intro w1 hSw; (try dsimp only at hSw); go_simp <;> with_reducible rfl
                      try simp only [Act.put, List.setIfInBounds_toArray, List.set_cons_zero, List.set_cons_succ]
                      refine wpAnyH_done (by kernel_rfl) ?_ _
                      go_wp2_with fail
                      go_meet
                      exact ⟨_, rfl, rfl, hz.setRow _, hHeld⟩
                  case rest =>
                  obtain ⟨gA, rfl, rfl, hrA, hb⟩ := hcut
                  have HQ17 := Lib.hid (HQ15.out.keep hb); have HRA := Lib.hid hrA
                  clear HQ15 hrA hb IS HOS
                  obtain ⟨W17, hW17⟩ : ∃ W17 : World, W17 = wc := ⟨_, rfl⟩
                  subst hW17
                  go_upto_region 66 with fail
                  go_upto_region 67 with (go_at_call 17; refine (HBY.out _ HQ17.out.2).mono ?_; rintro e W18 ⟨gC, cap, rfl, hcap, hg, hr, hfz, hb1⟩; have HCAP := Lib.hid hcap; have HGE := Lib.hid hg; have HRD := Lib.hid hr; have HFZ := Lib.hid hfz; have HB18 := Lib.hid hb1; clear hcap hg hr hfz hb1)
                  obtain ⟨p, hp⟩ : ∃ p, p = a29 % 21 := ⟨_, rfl⟩
                  have hp21 : p < 21 := by omega
                  have t1 : (a29 : Int) % 21 = (p : Int) := by omega
                  have t2 : (a29 : Int).tmod 21 = (p : Int) := by rw [Int.tmod_eq_emod_of_nonneg (by omega)]; omega
                  have hpi : (p : Int) < 21 := by omega
                  clear hp
                  obtain ⟨x1, hx1⟩ : ∃ x1, x1 = byteAt L21 p := ⟨_, rfl⟩
                  have hx1b := byteAt_bd L21 p
                  rw [← hx1] at hx1b
                  have c48 : W18.cell? ⟨gC, p, none⟩ = some (.int .u8 x1) := by
                    obtain ⟨b, off, e1, e2⟩ := HRD.out p (.int .u8 x1) (by rw [byts_at (by rw [HLL21.out]; exact hp21), hx1])
                    cases e1
                    rw [Nat.zero_add] at e2
                    exact e2
                  have fr48 := HFZ.out p
                  obtain ⟨z, hz⟩ : ∃ z : Nat, (z : Int) = (x1 + (bb : Int)) % 256 := ⟨((x1 + (bb : Int)) % 256).toNat, by omega⟩
                  have hz256 : z < 256 := by omega
                  have hzne : (z : Int) ≠ x1 := by omega
                  have y1 : (x1 + (bb : Int)) % 256 = (z : Int) := hz.symm
                  have y2 : (x1 + (bb : Int)).tmod 256 = (z : Int) := by rw [Int.tmod_eq_emod_of_nonneg (by omega)]; omega
                  have y3 : IntKind.u8.wrap (z : Int) = (z : Int) := IntWalk.u8_in _ (by omega)
                  have y4 : IntKind.i64.wrap (x1 + (bb : Int)) = x1 + (bb : Int) := by rw [IntWalk.i64_in _ (by omega)]
                  have HX1 := Lib.hid hx1; have HZ1 := Lib.hid hzne
                  clear hx1 hz hzne
                  go_upto_region 68 with fail
                  clear c48 fr48 y1 y2 y3 y4 t1 t2
                  obtain ⟨v1, hv1⟩ : ∃ v1 : UInt8, v1 = UInt8.ofNat z := ⟨_, rfl⟩
                  have hvn : ((v1.toNat : Nat) : Int) = (z : Int) := by rw [hv1]; exact u8_nat hz256
                  have hsS : Rd (W18.setCell ⟨gC, p, none⟩ (.int .u8 (z : Int))) (some ⟨gC, 0, none⟩) (byts (L21.set p v1)) ∧ Below W17.heap.size W17 (W18.setCell ⟨gC, p, none⟩ (.int .u8 (z : Int))) := by
                    refine ⟨?_, HB18.out.setCell HGE.out _⟩
                    rw [← hvn]
                    exact rd_set HRD.out p v1
                  refine genR (fun V => Rd V (some ⟨gC, 0, none⟩) (byts (L21.set p v1)) ∧ Below W17.heap.size W17 V) hsS ?_
                  have hvne : v1 ≠ L21[p]'(by rw [HLL21.out]; exact hp21) := by
                    intro e
                    apply HZ1.out
                    rw [← hvn, HX1.out, e]
                    unfold byteAt
                    rw [List.getD_eq_getElem?_getD, List.getElem?_eq_getElem (by rw [HLL21.out]; exact hp21)]; rfl
                  have HSA := fun i hi => seal_all (key := [k0, k1, k2, k3, k4, k5, k6, k7]) rfl (bs := L21) (k := p) (by rw [HLL21.out]; exact hp21) hvne (i := i) hi
                  have HSAL := Lib.hid HSA
                  clear hsS hv1 hvn hvne HSA HRD HFZ HB18 HGE HX1 HZ1
                  rintro W19 ⟨hrC, hb19⟩
                  have HRC := Lib.hid hrC
                  have HQ19 := Lib.hid (HQ17.out.keep hb19); have HRA' := Lib.hid (HRA.out.old hb19)
                  clear hrC hb19 HQ17 HRA
                  obtain ⟨LT, hLT⟩ : ∃ LT, LT = u8s (sealL [k0, k1, k2, k3, k4, k5, k6, k7] (L21.set p v1)) := ⟨_, rfl⟩
                  have hIT : LT.length = 8 := by rw [hLT, u8s_length, seal8]; rfl
                  have hOT : ∀ v ∈ LT, v.oneCell' = true := by rw [hLT]; exact u8s_one _
                  have HST : Hid (∀ W A c, Rd W A (byts (L21.set p v1)) → Calls Tryz.prog 24 #[.agg #[.int .u8 k0, .int .u8 k1, .int .u8 k2, .int .u8 k3, .int .u8 k4, .int .u8 k5, .int .u8 k6, .int .u8 k7], .slice A 21 c] W fun e w' => e = .returned (.tuple #[.agg LT.toArray, .int .i64 0]) ∧ Below W.heap.size W w') := fun W A c hr => by
                    rw [hLT]
                    exact seal_any k0 k1 k2 k3 k4 k5 k6 k7 A 21 c (L21.set p v1) W hr (by rw [List.length_set]; exact HLL21.out.symm) (by rw [List.length_set, HLL21.out]; omega) HKEYS.out
                  have IT := Lib.hid hIT; have HOT2 := Lib.hid hOT; have HLT := Lib.hid hLT
                  clear hIT hOT hLT
                  go_cut [49, 50] from 436 to 442 (fun s49 s50 wx => ∃ gB, s49 = .pointer (some ⟨gB, 0, none⟩) ∧ s50 = .int .i64 0 ∧ Row wx gB 46 LT ∧ Below W19.heap.size W19 wx)
                  case first => as_aux_lemma =>
                    go_wp2_with (first
                      | (refine wpList_load_row rfl 46 _ rfl w.heap.size rfl 46 #[.int .u8 k0, .int .u8 k1, .int .u8 k2, .int .u8 k3, .int .u8 k4, .int .u8 k5, .int .u8 k6, .int .u8 k7] (0, 0) _ HQ19.out.1.1 Tryz.underlying46 rfl ?_ ?_; (kernel_rfl))
                      | (go_at_call 24; refine (HST.out _ _ _ HRC.out).mono ?_; rintro e w1 ⟨rfl, hb1⟩; have HB1 := Lib.hid hb1; clear hb1)
                      | (refine wpList_store_row rfl 46 _ _ rfl w1.heap.size LT.toArray rfl rfl 46 _ (Row.new w1 46 (u8s [0, 0, 0, 0, 0, 0, 0, 0])) ?_ ?_ ?_ ?_; (rw [info47]; simp [IT.out]); (simp [IT.out, u8s]); (simpa using HOT2.out)))
                    go_meet
                    exact ⟨_, rfl, rfl, (Row.new w1 46 (u8s [0, 0, 0, 0, 0, 0, 0, 0])).setRow LT, Below.setRow (HB1.out.alloc HB1.out.size _) HB1.out.size _⟩
                  case rest =>
                  obtain ⟨gB, rfl, rfl, hrB, hb⟩ := hcut
                  have HQ20 := Lib.hid (HQ19.out.keep hb); have HRA2 := Lib.hid (HRA'.out.old hb); have HRB := Lib.hid hrB
                  clear HQ19 HRA' hrB hb HRC HST IT HOT2
                  obtain ⟨W20, hW20⟩ : ∃ W20 : World, W20 = wc := ⟨_, rfl⟩
                  subst hW20
                  go_wp2_with fail
                  go_loopg [448] 8 (fun g s448 wx => ∃ i : Nat, i + g = 8 ∧ s448 = .int .i64 i ∧ Hid (Below W20.heap.size W20 wx))
                  case atStart => exact ⟨0, by omega, rfl, Below.refl _ _⟩
                  case round =>
                    obtain ⟨i, hi, rfl, hb⟩ := hrel
                    by_cases hlt : i < 8
                    · obtain ⟨sx, hsx⟩ : ∃ sx, sx = (sealL [k0, k1, k2, k3, k4, k5, k6, k7] L21).getD i 0 := ⟨_, rfl⟩
                      obtain ⟨sy, hsy⟩ : ∃ sy, sy = (sealL [k0, k1, k2, k3, k4, k5, k6, k7] (L21.set p v1)).getD i 0 := ⟨_, rfl⟩
                      have hne : (sx == sy) = false := by rw [beq_eq_false_iff_ne, hsx, hsy]; exact (HSAL.out i hlt).symm
                      have c1 : wr.cell? ⟨gA, i, none⟩ = some (.int .u8 sx) := by rw [(HRA2.out.old hb.out).cell, HLS.out, u8s_at (by rw [seal8]; exact hlt), hsx]
                      have c2 : wr.cell? ⟨gB, i, none⟩ = some (.int .u8 sy) := by rw [(HRB.out.old hb.out).cell, HLT.out, u8s_at (by rw [seal8]; exact hlt), hsy]
                      have hi1 : (i : Int) < 8 := by omega
                      clear hsx hsy
                      go_upto_region 74 with fail
                      go_quiet (fail)
                      all_goals
                        go_wp2_with fail
                        go_roundg (8 - (i + 1))
                        case measure => omega
                        case rel => exact ⟨i + 1, by omega, rfl, below_drewN hb.out _⟩
                    · obtain rfl : i = 8 := by omega
                      have HQ21 := Lib.hid (HQ20.out.keep hb.out)
                      clear HQ20 HRA2 HRB hb
                      go_wp2_with (go_at_call 8; refine (haw _ HQ21.out.1.2.2.2.2.1).mono ?_; rintro e w5 ⟨rfl, hb5⟩; have HS5 := Lib.hid (HQ21.out.1.keep hb5); clear hb5)
                      go_ret
                      exact ⟨rfl, HS5.out.2.2.2.2.2⟩
end Go.Proofs.YtoclnlimnjnbkaaGreatDoor
