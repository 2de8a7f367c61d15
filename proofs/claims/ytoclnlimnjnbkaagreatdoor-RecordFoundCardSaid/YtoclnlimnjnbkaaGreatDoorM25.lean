import Derived.Test.YtoclnlimnjnbkaaGreatDoorM20
import Derived.WalkMore
namespace Go.Proofs.YtoclnlimnjnbkaaGreatDoor
set_option linter.all false
open Go.RowKit Go.Fl
theorem results_tct {P : Program} {fn : Func} {p t1 t2 : Tmp} {ty : TypeId} (h : fn.results = #[.tmp t1, .cell p ty, .tmp t2]) (tmps : Array Value) (w : World) (g : Nat) (e : TypeId) (cs : Array Value) (fr : Nat × Nat) (d : TypeDesc)
    (hp : tmps.getD p undef = .pointer (some ⟨g, 0, none⟩)) (hg : w.heap[g]? = some (.cells cs e fr))
    (hu : P.underlying ty = some d) (hd : (match d with | .struct _ | .array _ _ => true | _ => false) = true) (hi : (P.info? ty).map (·.size) = some cs.size) :
    (results fn tmps).run P w = .ok (.tuple #[tmps.getD t1 undef, .agg cs, tmps.getD t2 undef]) w := by
  have hp' : tmps[p]?.getD undef = .pointer (some ⟨g, 0, none⟩) := by simpa using hp
  simp [results, h, hp', asAddr, run_loadVar_row w g e ty cs fr d hg hu hd hi]
def alGo (x y : List Int) (least : Int) : Nat → Int → Int × Int × Int → Int × Int × Int
  | 0, _, b => b
  | g + 1, s, b =>
    if min (x.length : Int) (y.length - s) - max 0 (-s) < least then alGo x y least g (s + 1) b
    else
      let n := (min (x.length : Int) (y.length - s) - max 0 (-s)).toNat
      let X := (x.drop (max 0 (-s)).toNat).take n
      let Y := (y.drop (max 0 (-s) + s).toNat).take n
      let b' := if b.2.1 = 0 ∨ difN X Y * b.2.1 < b.1 * difD X Y then (difN X Y, difD X Y, s) else b
      if b'.1 = 0 then b' else alGo x y least g (s + 1) b'
def alignL (x y : List Int) (reach least : Int) : Int × Int × Int := alGo x y least (2 * reach + 1).toNat (-reach) (0, 0, 0)
def alRes (r : Int × Int × Int) : Array Value := if r.2.1 = 0 then #[.int .i64 0, .agg #[.int .i64 0, .int .i64 0], .int .i64 16] else #[.int .i64 r.2.2, .agg #[.int .i64 r.1, .int .i64 r.2.1], .int .i64 0]
theorem dif_bd (xs ys : List Int) (h0 : 0 < xs.length) (h1 : xs.length ≤ 4096) (hx : ∀ x ∈ xs, x.natAbs ≤ 65536) (hy : ∀ y ∈ ys, y.natAbs ≤ 65536) : (0 ≤ difN xs ys ∧ difN xs ys ≤ 536870912) ∧ 1 ≤ difD xs ys ∧ difD xs ys ≤ 4096 := by
  have hb := absSum_bd xs ys hx hy
  have hg : 0 < gcdI (absSum xs ys) xs.length := by
    unfold gcdI
    have := Int.gcd_pos_of_ne_zero_right (absSum xs ys) (b := (xs.length : Int)) (by omega)
    omega
  have hd : gcdI (absSum xs ys) xs.length ∣ (xs.length : Int) := Int.gcd_dvd_right ..
  unfold difN difD
  refine ⟨⟨Int.tdiv_nonneg hb.1 (by omega), ?_⟩, ?_, ?_⟩
  · rw [Int.tdiv_eq_ediv_of_nonneg hb.1]
    have := Int.ediv_le_self (gcdI (absSum xs ys) xs.length) hb.1
    omega
  · have := Int.le_of_dvd (by omega) hd
    exact (Int.le_ediv_iff_mul_le hg).2 (by omega)
  · have := Int.ediv_le_self (a := (xs.length : Int)) (gcdI (absSum xs ys) xs.length) (by omega)
    omega
theorem alGo_short (x y : List Int) (least : Int) (g : Nat) (s : Int) (b : Int × Int × Int) (h : min (x.length : Int) (y.length - s) - max 0 (-s) < least) : alGo x y least (g + 1) s b = alGo x y least g (s + 1) b := by rw [alGo, if_pos h]
theorem alGo_long (x y : List Int) (least : Int) (g : Nat) (s : Int) (b : Int × Int × Int) (f t f2 : Nat) (hf : max 0 (-s) = f) (ht : min (x.length : Int) (y.length - s) = t) (hf2 : (f : Int) + s = f2) (h : ¬ ((t : Int) - f < least)) :
    alGo x y least (g + 1) s b = (let b' := if b.2.1 = 0 ∨ difN ((x.drop f).take (t - f)) ((y.drop f2).take (t - f)) * b.2.1 < b.1 * difD ((x.drop f).take (t - f)) ((y.drop f2).take (t - f)) then (difN ((x.drop f).take (t - f)) ((y.drop f2).take (t - f)), difD ((x.drop f).take (t - f)) ((y.drop f2).take (t - f)), s) else b
      if b'.1 = 0 then b' else alGo x y least g (s + 1) b') := by
  rw [alGo, hf, ht, if_neg h, hf2]
  have e : ((t : Int) - (f : Int)).toNat = t - f := by omega
  rw [e, Int.toNat_natCast, Int.toNat_natCast]
set_option maxRecDepth 100000 in
set_option maxHeartbeats 3000000 in
theorem aligned_any (A B : Option Addr) (c d : Nat) (xs ys : List Nat) (n m : Nat) (reach least : Int) (w : World) (hA : Rd w A (flts xs)) (hB : Rd w B (flts ys)) (hn : n = xs.length) (hm : m = ys.length) (hx : xs.length ≤ 4096) (hy : ys.length ≤ 4096) (hsx : sampsI xs = 0) (hsy : sampsI ys = 0) (hvx : ∀ x ∈ xs, sampI x = 0) (hvy : ∀ y ∈ ys, sampI y = 0) (hr : 0 ≤ reach ∧ reach ≤ 256) (hl : 1 ≤ least ∧ least ≤ 4096) :
    Calls Tryz.prog 40 #[.slice A n c, .slice B m d, .int .i64 reach, .int .i64 least] w fun e w' => e = .returned (.tuple (alRes (alignL (xs.map unitI) (ys.map unitI) reach least))) ∧ Below w.heap.size w w' := by
  subst hn; subst hm
  have HA : Hid (∀ W, Below w.heap.size w W → Rd W A (flts xs)) := fun W h => hA.below h
  have HB : Hid (∀ W, Below w.heap.size w W → Rd W B (flts ys)) := fun W h => hB.below h
  have HSX := Lib.hid hsx; have HSY := Lib.hid hsy; have HVX := Lib.hid hvx; have HVY := Lib.hid hvy
  have HZ1 : Hid (whenI (rangeB reach 0 256) 3 = 0) := by unfold Hid whenI rangeB; simp; omega
  have HZ2 : Hid (whenI (rangeB least 1 4096) 3 = 0) := by unfold Hid whenI rangeB; simp; omega
  clear hA hB hsx hsy hvx hvy
  go_enter Tryz.func40, Tryz.ntmps40
  go_wp2
  refine genF w.heap.size 110 [.int .i64 0, .int .i64 0] (Row.new w 110 [.int .i64 0, .int .i64 0]) ((Below.refl w.heap.size w).alloc (Nat.le_refl _) _) ?_
  intro W R0 RB
  have HR := Lib.hid R0; have HRB := Lib.hid RB
  clear R0 RB
  go_step3
  go_wp2_with (first
    | (go_at_call 87; refine Calls.mono (checkSamples_any _ _ _ ?_ _ ?_ ?_) ?_; rotate_left; (first | exact HA.out _ HRB.out | exact HB.out _ HB1.out); rfl; rintro e w1 ⟨rfl, hb1⟩; (first | have HB1 := Lib.hid (HB1.out.trans (hb1.mono HB1.out.size)) | have HB1 := Lib.hid (HRB.out.trans (hb1.mono HRB.out.size))); (first | have HR1 := Lib.hid (HR1.out.old hb1) | have HR1 := Lib.hid (HR.out.old hb1)); (first | rw [HSX.out] | rw [HSY.out]); clear hb1)
    | (go_at_call 78; refine (between_any _ _ _ _).mono ?_; rintro e w3 ⟨rfl, rfl⟩; (first | rw [HZ1.out] | rw [HZ2.out]))
    | (go_at_call 76; refine (firstV_any _ _ _ [0, 0, 0, 0] _ ?_ rfl (by simp)).mono ?_; exact Rd.new _ _ _ _ (by simp); rintro e w3 ⟨rfl, rfl⟩))
  have hb1 := HB1.out.alloc HB1.out.size (.cells #[.int .i64 0, .int .i64 0, .int .i64 0, .int .i64 0] 28)
  refine (mappedUnit_any A _ _ xs _ (HA.out _ hb1) rfl (by omega) HVX.out).mono ?_
  rintro e w4 ⟨gx, rfl, hrx, hgx, hb4⟩
  have HB4 := Lib.hid (hb1.trans (hb4.mono hb1.size))
  have HR4 := Lib.hid ((HR1.out.alloc _).old hb4)
  have HX4 := Lib.hid hrx
  clear hb1 hrx hgx hb4
  go_wp2_with fail
  refine (mappedUnit_any B _ _ ys _ (HB.out _ HB4.out) rfl (by omega) HVY.out).mono ?_
  rintro e w5 ⟨gy, rfl, hry, hgy, hb5⟩
  have HB5 := Lib.hid (HB4.out.trans (hb5.mono HB4.out.size))
  have HR5 := Lib.hid (HR4.out.old hb5)
  have HX5 := Lib.hid (HX4.out.old hb5)
  have HY5 := Lib.hid hry
  clear hry hgy hb5 HB4 HR4 HX4 HB1 HR1
  go_wp2
  go_step3
  have hneg : IntKind.i64.wrap (-reach) = -reach := IntWalk.i64_in _ (by omega)
  go_upto_region 6 with fail
  have r6 : Row (w5.alloc (.cells #[.int .i64 0, .int .i64 0] 110)) w5.heap.size 110 [.int .i64 0, .int .i64 0] := Row.new w5 _ [.int .i64 0, .int .i64 0]
  refine genF w5.heap.size 110 [.int .i64 0, .int .i64 0] r6 ((Below.refl w5.heap.size w5).alloc (Nat.le_refl _) _) ?_
  clear r6
  intro w6 r6 b6
  have R6 := Lib.hid r6; have B6 := Lib.hid b6
  clear r6 b6
  go_wp2
  obtain ⟨X, hX⟩ : ∃ X, X = xs.map unitI := ⟨_, rfl⟩
  obtain ⟨Y, hY⟩ : ∃ Y, Y = ys.map unitI := ⟨_, rfl⟩
  have HXL : Hid (X.length = xs.length ∧ Y.length = ys.length) := by rw [hX, hY]; exact ⟨List.length_map _, List.length_map _⟩
  have HXB : Hid (∀ x ∈ X, x.natAbs ≤ 65536) := by
    rw [hX]; intro x hx; obtain ⟨v, hv, rfl⟩ := List.mem_map.1 hx; have := unitI_bd (HVX.out v hv); omega
  have HYB : Hid (∀ y ∈ Y, y.natAbs ≤ 65536) := by
    rw [hY]; intro x hx; obtain ⟨v, hv, rfl⟩ := List.mem_map.1 hx; have := unitI_bd (HVY.out v hv); omega
  have HX5 : Hid (Row w5 gx 3 (ints X)) := by rw [hX]; exact HX5.out
  have HY5 : Hid (Row w5 gy 3 (ints Y)) := by rw [hY]; exact HY5.out
  have HAL : Hid (alignL (xs.map unitI) (ys.map unitI) reach least = alignL X Y reach least) := by unfold Hid; rw [hX, hY]
  clear hX hY HA HB HSX HSY HVX HVY HZ1 HZ2
  go_loopg [15, 16] (2 * reach + 1).toNat (fun g sh s wr => ∃ (s' : Int) (b0 b1 b2 : Int), s = .int .i64 s' ∧ sh = .int .i64 b2 ∧ -reach ≤ s' ∧ s' ≤ reach + 1 ∧ g = (reach - s' + 1).toNat ∧ Hid (alGo X Y least g s' (b0, b1, b2) = alignL X Y reach least) ∧ Hid (0 ≤ b0 ∧ b0 ≤ 536870912 ∧ 0 ≤ b1 ∧ b1 ≤ 4096) ∧ Hid (Row wr w5.heap.size 110 [.int .i64 b0, .int .i64 b1]) ∧ Hid (Below w5.heap.size w5 wr))
  case atStart => exact ⟨-reach, 0, 0, 0, rfl, rfl, by omega, by omega, by omega, rfl, ⟨by decide, by decide, by decide, by decide⟩, R6, B6⟩
  case round =>
    obtain ⟨s, b0, b1, b2, rfl, rfl, hs1, hs2, hg, HG, Hb, HRb, HBw⟩ := hrel
    by_cases hlt : s ≤ reach
    · have hX := HXL.out.1; have hY := HXL.out.2
      obtain ⟨k, hk⟩ : ∃ k, (reach - s + 1).toNat = k + 1 := ⟨(reach - s).toNat, by omega⟩
      subst hg
      rw [hk] at HG
      have hk1 : k = (reach - (s + 1) + 1).toNat := by omega
      obtain ⟨f, hf⟩ : ∃ f : Nat, max 0 (-s) = (f : Int) := ⟨(max 0 (-s)).toNat, by omega⟩
      obtain ⟨tt, ht⟩ : ∃ tt, tt = min (X.length : Int) (Y.length - s) := ⟨_, rfl⟩
      have e1 : IntKind.i64.wrap (-s) = -s := IntWalk.i64_in _ (by omega)
      have e2 : IntKind.i64.wrap ((ys.length : Int) - s) = (ys.length : Int) - s := IntWalk.i64_in _ (by omega)
      have e3 : IntKind.i64.wrap (tt - f) = tt - f := IntWalk.i64_in _ (by omega)
      have e4 : wrap64 (s + 1) = s + 1 := by unfold wrap64; omega
      have hfr : (if s < 0 then -s else 0) = (f : Int) := by split <;> omega
      have hfr2 : (if 0 < -s then -s else 0) = (f : Int) := by split <;> omega
      have hto : (if (ys.length : Int) - s < xs.length then (ys.length : Int) - s else xs.length) = tt := by split <;> omega
      have HTT := Lib.hid ht; have HF := Lib.hid hf; have HK1 := Lib.hid hk1
      clear ht hf hk1
      cases hlt2 : decide (tt - f < least)
      · have hge : least ≤ tt - f := by have := of_decide_eq_false hlt2; omega
        have ht := HTT.out; have hf := HF.out
        obtain ⟨t, htt⟩ : ∃ t : Nat, tt = (t : Int) := ⟨tt.toNat, by omega⟩
        subst htt
        obtain ⟨f2, hf2⟩ : ∃ f2 : Nat, (f : Int) + s = (f2 : Int) := ⟨((f : Int) + s).toNat, by omega⟩
        obtain ⟨t2, ht2⟩ : ∃ t2 : Nat, (t : Int) + s = (t2 : Int) := ⟨((t : Int) + s).toNat, by omega⟩
        have hfs : IntKind.i64.wrap ((f : Int) + s) = (f2 : Int) := by rw [hf2]; exact IntWalk.i64_in _ (by omega)
        have hts : IntKind.i64.wrap ((t : Int) + s) = (t2 : Int) := by rw [ht2]; exact IntWalk.i64_in _ (by omega)
        obtain ⟨A1, hsl1, hR1, -⟩ := slice_mid (P := Tryz.prog) 92 (by kernel_rfl) (fun _ => by kernel_rfl) (some ⟨gx, 0, none⟩) xs.length xs.length f t (by omega) (by omega) (Nat.le_refl _) (fun h => by cases h)
        obtain ⟨A2, hsl2, hR2, -⟩ := slice_mid (P := Tryz.prog) 92 (by kernel_rfl) (fun _ => by kernel_rfl) (some ⟨gy, 0, none⟩) ys.length ys.length f2 t2 (by omega) (by omega) (Nat.le_refl _) (fun h => by cases h)
        have hn : t2 - f2 = t - f := by omega
        rw [hn] at hR2
        simp only [hn] at hsl2
        have hlX : ((X.drop f).take (t - f)).length = t - f := by rw [List.length_take, List.length_drop]; omega
        have hlY : ((Y.drop f2).take (t - f)).length = t - f := by rw [List.length_take, List.length_drop]; omega
        have hbX : ∀ x ∈ (X.drop f).take (t - f), x.natAbs ≤ 65536 := fun x h => HXB.out x (List.mem_of_mem_drop (List.mem_of_mem_take h))
        have hbY : ∀ y ∈ (Y.drop f2).take (t - f), y.natAbs ≤ 65536 := fun y h => HYB.out y (List.mem_of_mem_drop (List.mem_of_mem_take h))
        have hdb := dif_bd _ ((Y.drop f2).take (t - f)) (by rw [hlX]; omega) (by rw [hlX]; omega) hbX hbY
        have hgl := alGo_long X Y least k s (b0, b1, b2) f t f2 hf ht.symm hf2 (of_decide_eq_false hlt2)
        have HD : Hid (∀ W, Below w5.heap.size w5 W → Calls Tryz.prog 100 #[.slice A1 (t - f) (xs.length - f), .slice A2 (t - f) (ys.length - f2)] W fun e w' => e = .returned (.agg #[.int .i64 (difN ((X.drop f).take (t - f)) ((Y.drop f2).take (t - f))), .int .i64 (difD ((X.drop f).take (t - f)) ((Y.drop f2).take (t - f)))]) ∧ Below W.heap.size W w') := fun W hW =>
          difference_any A1 A2 _ _ ((X.drop f).take (t - f)) ((Y.drop f2).take (t - f)) (t - f) W
            (by have h := hR1 W (ints X) (Rd.row (HX5.out.old hW)); simpa only [ints, List.map_drop, List.map_take] using h)
            (by have h := hR2 W (ints Y) (Rd.row (HY5.out.old hW)); simpa only [ints, List.map_drop, List.map_take] using h)
            hlX.symm (by rw [hlX, hlY]) (by rw [hlX]; omega) (by rw [hlX]; omega) hbX hbY
        obtain ⟨dn, hdn⟩ : ∃ dn, dn = difN ((X.drop f).take (t - f)) ((Y.drop f2).take (t - f)) := ⟨_, rfl⟩
        obtain ⟨dd, hdd⟩ : ∃ dd, dd = difD ((X.drop f).take (t - f)) ((Y.drop f2).take (t - f)) := ⟨_, rfl⟩
        simp only [← hdn, ← hdd] at HD hgl hdb
        have Hgl := Lib.hid hgl; have Hdb := Lib.hid hdb; have He4 := Lib.hid e4
        clear hgl hdb hdn hdd hlX hlY hbX hbY hR1 hR2 hf2 ht2 hf ht hX hY HTT
        go_wp2
        go_cut [19] (fun s19 wx => ∃ g : Nat, s19 = .pointer (some ⟨g, 0, none⟩) ∧ Row wx g 110 [.int .i64 dn, .int .i64 dd] ∧ wr.heap.size ≤ g ∧ Below wr.heap.size wr wx)
        case first =>
          refine wp_region_held_drew (S := fun w' => Below wr.heap.size wr w') (by kernel_rfl) ?_ (fun hHeld => ?_)
          · exact (Below.refl _ _).drew
          refine wpAnyH_take (i := 0) (oi := ⟨some 61, _, _, _, _, _⟩) (v := ?_) rfl (by kernel_rfl) (by kernel_rfl) (by kernel_rfl) (fun _ _ _ h => h) (Or.inl ⟨by kernel_rfl, ?_⟩) hHeld ?_
          rotate_left
          · intro w1 hSw; (try dsimp only at hSw); go_simp <;> with_reducible rfl
          try simp only [Act.put, List.setIfInBounds_toArray, List.set_cons_zero, List.set_cons_succ]
          refine wpAnyH_take (i := 1) (oi := ⟨some 62, _, _, _, _, _⟩) (v := ?_) rfl (by kernel_rfl) (by kernel_rfl) (by kernel_rfl) (fun _ _ _ h => h) (Or.inl ⟨by kernel_rfl, ?_⟩) hHeld ?_
          rotate_left
          · intro w1 hSw; (try dsimp only at hSw); go_simp <;> with_reducible rfl
          try simp only [Act.put, List.setIfInBounds_toArray, List.set_cons_zero, List.set_cons_succ]
          refine wpAnyH_take (i := 2) (oi := ⟨some 63, _, _, _, _, _⟩) (v := ?_) rfl (by kernel_rfl) (by kernel_rfl) (by kernel_rfl) (fun _ _ _ h => h) (Or.inl ⟨by kernel_rfl, ?_⟩) hHeld ?_
          rotate_left
          · intro w1 hSw; (try dsimp only at hSw); go_simp <;> with_reducible rfl
          try simp only [Act.put, List.setIfInBounds_toArray, List.set_cons_zero, List.set_cons_succ]
          refine wpAnyH_take (i := 3) (oi := ⟨some 64, _, _, _, _, _⟩) (v := ?_) rfl (by kernel_rfl) (by kernel_rfl) (by kernel_rfl) (fun _ _ _ h => h) (Or.inl ⟨by kernel_rfl, ?_⟩) hHeld ?_
          rotate_left
          · intro w1 hSw; (try dsimp only at hSw); go_simp <;> with_reducible rfl
          try simp only [Act.put, List.setIfInBounds_toArray, List.set_cons_zero, List.set_cons_succ]
          refine wpAnyH_take (i := 4) (oi := ⟨some 65, _, _, _, _, _⟩) (v := ?_) rfl (by kernel_rfl) (by kernel_rfl) (by kernel_rfl) (fun _ _ _ h => h) (Or.inl ⟨by kernel_rfl, ?_⟩) hHeld ?_
          rotate_left
          · intro w1 hSw; (try dsimp only at hSw); go_simp <;> with_reducible rfl
          try simp only [Act.put, List.setIfInBounds_toArray, List.set_cons_zero, List.set_cons_succ]
          refine wpAnyH_take (i := 5) (oi := ⟨some 66, _, _, _, _, _⟩) (v := ?_) rfl (by kernel_rfl) (by kernel_rfl) (by kernel_rfl) (fun _ _ _ h => h) (Or.inl ⟨by kernel_rfl, ?_⟩) hHeld ?_
          rotate_left
          · intro w1 hSw; (try dsimp only at hSw); go_simp <;> with_reducible rfl
          try simp only [Act.put, List.setIfInBounds_toArray, List.set_cons_zero, List.set_cons_succ]
          refine wpAnyH_take (i := 6) (oi := ⟨some 67, _, _, _, _, _⟩) (v := ?_) rfl (by kernel_rfl) (by kernel_rfl) (by kernel_rfl) (fun _ _ _ h => h) (Or.inl ⟨by kernel_rfl, ?_⟩) hHeld ?_
          rotate_left
          · intro w1 hSw; (try dsimp only at hSw); go_simp <;> with_reducible rfl
          try simp only [Act.put, List.setIfInBounds_toArray, List.set_cons_zero, List.set_cons_succ]
          refine wpAnyH_take (i := 7) (oi := ⟨some 68, _, _, _, _, _⟩) (v := ?_) rfl (by kernel_rfl) (by kernel_rfl) (by kernel_rfl) (fun _ _ _ h => h) (Or.inl ⟨by kernel_rfl, ?_⟩) hHeld ?_
          rotate_left
          · intro w1 hSw; (try dsimp only at hSw); go_simp <;> with_reducible rfl
          try simp only [Act.put, List.setIfInBounds_toArray, List.set_cons_zero, List.set_cons_succ]
          refine wpAnyH_take (i := 8) (oi := ⟨some 69, _, _, _, _, _⟩) (v := ?_) rfl (by kernel_rfl) (by kernel_rfl) (by kernel_rfl) (fun _ _ _ h => h) (Or.inl ⟨by kernel_rfl, ?_⟩) hHeld ?_
          rotate_left
          · intro w1 hSw; (try dsimp only at hSw); go_simp <;> with_reducible rfl
          try simp only [Act.put, List.setIfInBounds_toArray, List.set_cons_zero, List.set_cons_succ]
          refine wpAnyH_take (i := 9) (oi := ⟨some 70, _, _, _, _, _⟩) (v := ?_) rfl (by kernel_rfl) (by kernel_rfl) (by kernel_rfl) (fun _ _ _ h => h) (Or.inl ⟨by kernel_rfl, ?_⟩) hHeld ?_
          rotate_left
          · intro w1 hSw; (try dsimp only at hSw); go_simp <;> with_reducible rfl
          try simp only [Act.put, List.setIfInBounds_toArray, List.set_cons_zero, List.set_cons_succ]
          refine wpAnyH_take (i := 10) (oi := ⟨some 71, _, _, _, _, _⟩) (v := ?_) rfl (by kernel_rfl) (by kernel_rfl) (by kernel_rfl) (fun _ _ _ h => h) (Or.inl ⟨by kernel_rfl, ?_⟩) hHeld ?_
          rotate_left
          · intro w1 hSw; (try dsimp only at hSw); go_simp <;> with_reducible rfl
          try simp only [Act.put, List.setIfInBounds_toArray, List.set_cons_zero, List.set_cons_succ]
          refine wpAnyH_take (i := 11) (oi := ⟨some 72, _, _, _, _, _⟩) (v := ?_) rfl (by kernel_rfl) (by kernel_rfl) (by kernel_rfl) (fun _ _ _ h => h) (Or.inl ⟨by kernel_rfl, ?_⟩) hHeld ?_
          rotate_left
          · intro w1 hSw; (try dsimp only at hSw); go_simp <;> with_reducible rfl
          try simp only [Act.put, List.setIfInBounds_toArray, List.set_cons_zero, List.set_cons_succ]
          refine wpAnyH_ready (rs := [12, 13]) (by kernel_rfl) (by simp) ?_
          refine AllReadyH.cons rfl (fun K hK => ?_) (AllReadyH.cons rfl (fun K hK => ?_) (AllReadyH.nil))
          ·
            go_simp
            go_at_call 100
            refine (HD.out _ (HBw.out.trans (hHeld.mono HBw.out.size))).mono ?_
            rintro e w2 ⟨rfl, hb2⟩
            try go_simp
            refine hK.out _ _ ?_ (fun hHeld => ?_)
            · exact hHeld.trans (hb2.mono hHeld.size)
            clear hK K
            try simp only [Act.put, List.setIfInBounds_toArray, List.set_cons_zero, List.set_cons_succ]
            refine wpAnyH_ready (rs := [13]) (by kernel_rfl) (by simp) ?_
            refine AllReadyH.cons rfl (fun K hK => ?_) (AllReadyH.nil)
            go_simp
            refine hK.out _ _ ?_ (fun hHeld => ?_)
            · exact hHeld.alloc hHeld.size _
            clear hK K
            try simp only [Act.put, List.setIfInBounds_toArray, List.set_cons_zero, List.set_cons_succ]
            refine wpAnyH_ready (rs := [14]) (by kernel_rfl) (by simp) ?_
            refine AllReadyH.cons rfl (fun K hK => ?_) (AllReadyH.nil)
            have zb := (Below.refl _ wr).drew.trans hb2
            have hz := Row.new w2 110 [.int .i64 0, .int .i64 0]
            refine step_store_row rfl 110 _ _ rfl w2.heap.size [.int .i64 dn, .int .i64 dd] rfl rfl 110 [.int .i64 0, .int .i64 0] hz (by kernel_rfl) rfl (by simp [Value.oneCell']) ?_
            refine hK.out _ _ ?_ (fun hHeld => ?_)
            · exact Below.setRow hHeld zb.size _
            clear hK K
            try simp only [Act.put, List.setIfInBounds_toArray, List.set_cons_zero, List.set_cons_succ]
            refine wpAnyH_done (by kernel_rfl) ?_ _
            go_wp2_with fail
            go_meet
            exact ⟨w2.heap.size, rfl, hz.setRow _, zb.size, Below.setRow (zb.alloc zb.size _) zb.size _⟩
          ·
            go_simp
            refine hK.out _ _ ?_ (fun hHeld => ?_)
            · exact hHeld.alloc hHeld.size _
            clear hK K
            try simp only [Act.put, List.setIfInBounds_toArray, List.set_cons_zero, List.set_cons_succ]
            refine wpAnyH_ready (rs := [12]) (by kernel_rfl) (by simp) ?_
            refine AllReadyH.cons rfl (fun K hK => ?_) (AllReadyH.nil)
            go_simp
            go_at_call 100
            refine (HD.out _ (HBw.out.trans (hHeld.mono HBw.out.size))).mono ?_
            rintro e w2 ⟨rfl, hb2⟩
            try go_simp
            refine hK.out _ _ ?_ (fun hHeld => ?_)
            · exact hHeld.trans (hb2.mono hHeld.size)
            clear hK K
            try simp only [Act.put, List.setIfInBounds_toArray, List.set_cons_zero, List.set_cons_succ]
            refine wpAnyH_ready (rs := [14]) (by kernel_rfl) (by simp) ?_
            refine AllReadyH.cons rfl (fun K hK => ?_) (AllReadyH.nil)
            have hz : Row w2 wr.heap.size 110 [.int .i64 0, .int .i64 0] := Row.old (w := (wr.drew.alloc (.cells #[.int .i64 0, .int .i64 0] 110))) (Row.new wr.drew 110 [.int .i64 0, .int .i64 0]) hb2
            refine step_store_row rfl 110 _ _ rfl wr.heap.size [.int .i64 dn, .int .i64 dd] rfl rfl 110 [.int .i64 0, .int .i64 0] hz (by kernel_rfl) rfl (by simp [Value.oneCell']) ?_
            refine hK.out _ _ ?_ (fun hHeld => ?_)
            · exact Below.setRow hHeld (Nat.le_refl _) _
            clear hK K
            try simp only [Act.put, List.setIfInBounds_toArray, List.set_cons_zero, List.set_cons_succ]
            refine wpAnyH_done (by kernel_rfl) ?_ _
            go_wp2_with fail
            go_meet
            have zb : Below wr.heap.size wr w2 := ((Below.refl _ wr).drew.alloc (Nat.le_refl _) _).trans (hb2.mono (by simp))
            exact ⟨wr.heap.size, rfl, hz.setRow _, Nat.le_refl _, Below.setRow zb (Nat.le_refl _) _⟩
        case rest =>
          obtain ⟨g, rfl, hrow, hgw, hbw⟩ := hcut
          have hb2 := HRb.out.old hbw
          have HRg := Lib.hid hrow; have HRb2 := Lib.hid hb2
          have HB2 := Lib.hid (HBw.out.trans (hbw.mono HBw.out.size))
          have z1 := HRb.out.lt
          have z2 := hrow.lt
          have z3 := hb2.lt
          have p0 := hb2.cell 0; have p1 := hb2.cell 1; have r0 := hrow.cell 0; have r1 := hrow.cell 1
          simp only [List.getElem?_cons_succ, List.getElem?_cons_zero] at p0 p1 r0 r1
          have hmul : (-4611686018427387904 ≤ dn * b1 ∧ dn * b1 ≤ 4611686018427387904) ∧ (-4611686018427387904 ≤ b0 * dd ∧ b0 * dd ≤ 4611686018427387904) := by
            have h1 := Hdb.out; have h2 := Hb.out
            have m1 : dn * b1 ≤ 536870912 * 4096 := Int.mul_le_mul h1.1.2 h2.2.2.2 h2.2.2.1 (by decide)
            have m2 : b0 * dd ≤ 536870912 * 4096 := Int.mul_le_mul h2.2.1 h1.2.2 (by omega) (by decide)
            have m3 : 0 ≤ dn * b1 := Int.mul_nonneg h1.1.1 h2.2.2.1
            have m4 : 0 ≤ b0 * dd := Int.mul_nonneg h2.1 (by omega)
            omega
          have Hmul := Lib.hid hmul
          clear hrow hb2 hbw hmul
          have hne : Hid (w5.heap.size ≠ g) := by unfold Hid; omega
          by_cases hz : b1 = 0
          · subst hz
            go_upto_region 14 with (refine wpList_store_row rfl 110 _ _ rfl w5.heap.size #[.int .i64 dn, .int .i64 dd] rfl rfl 110 _ HRb2.out ?_ ?_ ?_ ?_; (kernel_rfl); (rfl); (simp [Value.oneCell']))
            refine genA (w0 := w5) w5.heap.size 110 [.int .i64 dn, .int .i64 dd] (HRb2.out.setRow _) (Below.setRow HB2.out (Nat.le_refl _) _) ?_
            intro w8 r8 b8
            have R8 := Lib.hid r8; have B8 := Lib.hid b8
            have q0 := r8.cell 0; have q1 := r8.cell 1
            simp only [List.getElem?_cons_succ, List.getElem?_cons_zero] at q0 q1
            have Hst : Hid (alignL X Y reach least = if dn = 0 then (dn, dd, s) else alGo X Y least k (s + 1) (dn, dd, s)) := by
              unfold Hid; rw [← HG.out, Hgl.out]; simp
            clear r8 b8 p0 p1 r0 r1
            by_cases hd0 : dn = 0
            · have hd1 : (dn == 0) = true := by simpa using hd0
              have hdd1 : (dd == 0) = false := by have := Hdb.out; simp; omega
              have HFIN : Hid (alignL X Y reach least = (dn, dd, s)) := by unfold Hid; rw [Hst.out, if_pos hd0]
              clear hd0
              go_wp2
              have HR8 := Lib.hid (HR5.out.old B8.out)
              have z0 := HR8.out.cell 0; have z1 := HR8.out.cell 1
              simp only [List.getElem?_cons_succ, List.getElem?_cons_zero] at z0 z1
              have f0 := HR8.out.free 0; have f1 := HR8.out.free 1
              have n1 : ¬ w.heap.size = w5.heap.size := by have := HR5.out.lt; omega
              have n2 : ¬ w5.heap.size = w.heap.size := fun h => n1 h.symm
              have HS0 : Hid (w8.cell? ⟨w5.heap.size, 0, none⟩ = some (.int .i64 dn) ∧ w8.cell? ⟨w5.heap.size, 1, none⟩ = some (.int .i64 dd)) := ⟨by rw [R8.out.cell]; rfl, by rw [R8.out.cell]; rfl⟩
              have hK : ∀ (V : World) o v, (V.cell? ⟨w5.heap.size, 0, none⟩ = some (.int .i64 dn) ∧ V.cell? ⟨w5.heap.size, 1, none⟩ = some (.int .i64 dd)) → ((V.setCell ⟨w.heap.size, o, none⟩ v).cell? ⟨w5.heap.size, 0, none⟩ = some (.int .i64 dn) ∧ (V.setCell ⟨w.heap.size, o, none⟩ v).cell? ⟨w5.heap.size, 1, none⟩ = some (.int .i64 dd)) := fun V o v h => ⟨(World.cell?_setCell_far V _ _ v n1).trans h.1, (World.cell?_setCell_far V _ _ v n1).trans h.2⟩
              have HK := Lib.hid hK
              clear hK
              go_region_held3 (fun w' => w'.cell? ⟨w5.heap.size, 0, none⟩ = some (.int .i64 dn) ∧ w'.cell? ⟨w5.heap.size, 1, none⟩ = some (.int .i64 dd)) (first | assumption | exact HS0.out | exact HK.out _ _ _ (HK.out _ _ _ (by assumption)) | exact HK.out _ _ _ (HK.out _ _ _ HS0.out)) (fail)
              all_goals go_wp2
              try rw [Exit.noGoto_ret]
              have hrow : Row ((w8.setCell ⟨w.heap.size, 0, none⟩ (.int .i64 dn)).setCell ⟨w.heap.size, 1, none⟩ (.int .i64 dd)).drew w.heap.size 110 [.int .i64 dn, .int .i64 dd] := (HR8.out.set 0 _).set 1 _
              have hbw : Below w.heap.size w w8 := HB5.out.trans (B8.out.mono HB5.out.size)
              refine bodyPost_ret (results_tct rfl _ _ w.heap.size 110 #[.int .i64 dn, .int .i64 dd] (0, 0) _ rfl hrow Tryz.underlying110 rfl (by kernel_rfl)) rfl ⟨?_, ((hbw.setCell (Nat.le_refl _) _).setCell (Nat.le_refl _) _).drew⟩
              rw [HAL.out, HFIN.out, alRes, if_neg (show ¬ (dn, dd, s).2.1 = 0 from by simpa using hdd1)]
              exact rfl
            · have hd1 : (dn == 0) = false := by simpa using hd0
              have Hst2 : Hid (alGo X Y least k (s + 1) (dn, dd, s) = alignL X Y reach least) := by unfold Hid; rw [Hst.out, if_neg hd0]
              clear hd0
              go_wp2
              go_roundg k
              case measure => omega
              case rel => exact ⟨s + 1, dn, dd, s, by go_num, rfl, by omega, by omega, HK1.out, Hst2.out, by have := Hdb.out; show _ ∧ _ ∧ _ ∧ _; omega, R8, B8⟩
          · have hz1 : (b1 == 0) = false := by simpa using hz
            have HZ := Lib.hid hz
            obtain ⟨lt, hlt9⟩ : ∃ lt, lt = decide (dn * b1 < b0 * dd) := ⟨_, rfl⟩
            have HLS : Hid (∀ W, Calls Tryz.prog 101 #[.agg #[.int .i64 dn, .int .i64 dd], .agg #[.int .i64 b0, .int .i64 b1]] W fun e w' => e = .returned (.bool lt) ∧ Below W.heap.size W w') := fun W => by
              rw [hlt9]; exact isLess_any dn dd b0 b1 W Hmul.out.1.1 Hmul.out.1.2 Hmul.out.2.1 Hmul.out.2.2
            have Hlt := Lib.hid hlt9
            have Hst : Hid (alignL X Y reach least = (let b' := if lt = true then (dn, dd, s) else (b0, b1, b2); if b'.1 = 0 then b' else alGo X Y least k (s + 1) b')) := by
              unfold Hid; rw [← HG.out, Hgl.out, hlt9]
              by_cases hq : dn * b1 < b0 * dd
              · simp [hq]
              · simp [hq, hz]
            clear hz hlt9
            cases lt
            · go_upto_region 14 with (go_at_call 101; refine (HLS.out _).mono ?_; rintro e w7 ⟨rfl, hb7⟩; have HB7 := Lib.hid hb7; clear hb7)
              refine genA (w0 := w5) w5.heap.size 110 [.int .i64 b0, .int .i64 b1] (HRb2.out.old HB7.out) (HB2.out.trans (HB7.out.mono HB2.out.size)) ?_
              intro w8 r8 b8
              have R8 := Lib.hid r8; have B8 := Lib.hid b8
              have q0 := r8.cell 0; have q1 := r8.cell 1
              simp only [List.getElem?_cons_succ, List.getElem?_cons_zero] at q0 q1
              clear r8 b8 p0 p1 r0 r1
              by_cases hd0 : b0 = 0
              · have hd1 : (b0 == 0) = true := by simpa using hd0
                have hdd1 : (b1 == 0) = false := hz1
                have HFIN : Hid (alignL X Y reach least = (b0, b1, b2)) := by unfold Hid; rw [Hst.out]; simp [hd0]
                clear hd0
                go_wp2
                have HR8 := Lib.hid (HR5.out.old B8.out)
                have z0 := HR8.out.cell 0; have z1 := HR8.out.cell 1
                simp only [List.getElem?_cons_succ, List.getElem?_cons_zero] at z0 z1
                have f0 := HR8.out.free 0; have f1 := HR8.out.free 1
                have n1 : ¬ w.heap.size = w5.heap.size := by have := HR5.out.lt; omega
                have n2 : ¬ w5.heap.size = w.heap.size := fun h => n1 h.symm
                have HS0 : Hid (w8.cell? ⟨w5.heap.size, 0, none⟩ = some (.int .i64 b0) ∧ w8.cell? ⟨w5.heap.size, 1, none⟩ = some (.int .i64 b1)) := ⟨by rw [R8.out.cell]; rfl, by rw [R8.out.cell]; rfl⟩
                have hK : ∀ (V : World) o v, (V.cell? ⟨w5.heap.size, 0, none⟩ = some (.int .i64 b0) ∧ V.cell? ⟨w5.heap.size, 1, none⟩ = some (.int .i64 b1)) → ((V.setCell ⟨w.heap.size, o, none⟩ v).cell? ⟨w5.heap.size, 0, none⟩ = some (.int .i64 b0) ∧ (V.setCell ⟨w.heap.size, o, none⟩ v).cell? ⟨w5.heap.size, 1, none⟩ = some (.int .i64 b1)) := fun V o v h => ⟨(World.cell?_setCell_far V _ _ v n1).trans h.1, (World.cell?_setCell_far V _ _ v n1).trans h.2⟩
                have HK := Lib.hid hK
                clear hK
                go_region_held3 (fun w' => w'.cell? ⟨w5.heap.size, 0, none⟩ = some (.int .i64 b0) ∧ w'.cell? ⟨w5.heap.size, 1, none⟩ = some (.int .i64 b1)) (first | assumption | exact HS0.out | exact HK.out _ _ _ (HK.out _ _ _ (by assumption)) | exact HK.out _ _ _ (HK.out _ _ _ HS0.out)) (fail)
                all_goals go_wp2
                try rw [Exit.noGoto_ret]
                have hrow : Row ((w8.setCell ⟨w.heap.size, 0, none⟩ (.int .i64 b0)).setCell ⟨w.heap.size, 1, none⟩ (.int .i64 b1)).drew w.heap.size 110 [.int .i64 b0, .int .i64 b1] := (HR8.out.set 0 _).set 1 _
                have hbw : Below w.heap.size w w8 := HB5.out.trans (B8.out.mono HB5.out.size)
                refine bodyPost_ret (results_tct rfl _ _ w.heap.size 110 #[.int .i64 b0, .int .i64 b1] (0, 0) _ rfl hrow Tryz.underlying110 rfl (by kernel_rfl)) rfl ⟨?_, ((hbw.setCell (Nat.le_refl _) _).setCell (Nat.le_refl _) _).drew⟩
                rw [HAL.out, HFIN.out, alRes, if_neg (show ¬ (b0, b1, b2).2.1 = 0 from by simpa using hdd1)]
                exact rfl
              · have hd1 : (b0 == 0) = false := by simpa using hd0
                have Hst2 : Hid (alGo X Y least k (s + 1) (b0, b1, b2) = alignL X Y reach least) := by unfold Hid; rw [Hst.out]; simp [hd0]
                clear hd0
                go_wp2
                go_roundg k
                case measure => omega
                case rel => exact ⟨s + 1, b0, b1, b2, by go_num, rfl, by omega, by omega, HK1.out, Hst2.out, Hb.out, R8, B8⟩
            · go_upto_region 14 with (first
                | (go_at_call 101; refine (HLS.out _).mono ?_; rintro e w7 ⟨rfl, hb7⟩; have HB7 := Lib.hid hb7; have HRb7 := Lib.hid (HRb2.out.old hb7); have HRg7 := Lib.hid (HRg.out.old hb7); have r0 := HRg7.out.cell 0; have r1 := HRg7.out.cell 1; simp only [List.getElem?_cons_succ, List.getElem?_cons_zero] at r0 r1; clear hb7)
                | (refine wpList_store_row rfl 110 _ _ rfl w5.heap.size #[.int .i64 dn, .int .i64 dd] rfl rfl 110 _ HRb7.out ?_ ?_ ?_ ?_; (kernel_rfl); (rfl); (simp [Value.oneCell'])))
              refine genA (w0 := w5) w5.heap.size 110 [.int .i64 dn, .int .i64 dd] (HRb7.out.setRow _) (Below.setRow (HB2.out.trans (HB7.out.mono HB2.out.size)) (Nat.le_refl _) _) ?_
              intro w8 r8 b8
              have R8 := Lib.hid r8; have B8 := Lib.hid b8
              have q0 := r8.cell 0; have q1 := r8.cell 1
              simp only [List.getElem?_cons_succ, List.getElem?_cons_zero] at q0 q1
              clear r8 b8 p0 p1
              by_cases hd0 : dn = 0
              · have hd1 : (dn == 0) = true := by simpa using hd0
                have hdd1 : (dd == 0) = false := by have := Hdb.out; simp; omega
                have HFIN : Hid (alignL X Y reach least = (dn, dd, s)) := by unfold Hid; rw [Hst.out]; simp [hd0]
                clear hd0
                go_wp2
                have HR8 := Lib.hid (HR5.out.old B8.out)
                have z0 := HR8.out.cell 0; have z1 := HR8.out.cell 1
                simp only [List.getElem?_cons_succ, List.getElem?_cons_zero] at z0 z1
                have f0 := HR8.out.free 0; have f1 := HR8.out.free 1
                have n1 : ¬ w.heap.size = w5.heap.size := by have := HR5.out.lt; omega
                have n2 : ¬ w5.heap.size = w.heap.size := fun h => n1 h.symm
                have HS0 : Hid (w8.cell? ⟨w5.heap.size, 0, none⟩ = some (.int .i64 dn) ∧ w8.cell? ⟨w5.heap.size, 1, none⟩ = some (.int .i64 dd)) := ⟨by rw [R8.out.cell]; rfl, by rw [R8.out.cell]; rfl⟩
                have hK : ∀ (V : World) o v, (V.cell? ⟨w5.heap.size, 0, none⟩ = some (.int .i64 dn) ∧ V.cell? ⟨w5.heap.size, 1, none⟩ = some (.int .i64 dd)) → ((V.setCell ⟨w.heap.size, o, none⟩ v).cell? ⟨w5.heap.size, 0, none⟩ = some (.int .i64 dn) ∧ (V.setCell ⟨w.heap.size, o, none⟩ v).cell? ⟨w5.heap.size, 1, none⟩ = some (.int .i64 dd)) := fun V o v h => ⟨(World.cell?_setCell_far V _ _ v n1).trans h.1, (World.cell?_setCell_far V _ _ v n1).trans h.2⟩
                have HK := Lib.hid hK
                clear hK
                go_region_held3 (fun w' => w'.cell? ⟨w5.heap.size, 0, none⟩ = some (.int .i64 dn) ∧ w'.cell? ⟨w5.heap.size, 1, none⟩ = some (.int .i64 dd)) (first | assumption | exact HS0.out | exact HK.out _ _ _ (HK.out _ _ _ (by assumption)) | exact HK.out _ _ _ (HK.out _ _ _ HS0.out)) (fail)
                all_goals go_wp2
                try rw [Exit.noGoto_ret]
                have hrow : Row ((w8.setCell ⟨w.heap.size, 0, none⟩ (.int .i64 dn)).setCell ⟨w.heap.size, 1, none⟩ (.int .i64 dd)).drew w.heap.size 110 [.int .i64 dn, .int .i64 dd] := (HR8.out.set 0 _).set 1 _
                have hbw : Below w.heap.size w w8 := HB5.out.trans (B8.out.mono HB5.out.size)
                refine bodyPost_ret (results_tct rfl _ _ w.heap.size 110 #[.int .i64 dn, .int .i64 dd] (0, 0) _ rfl hrow Tryz.underlying110 rfl (by kernel_rfl)) rfl ⟨?_, ((hbw.setCell (Nat.le_refl _) _).setCell (Nat.le_refl _) _).drew⟩
                rw [HAL.out, HFIN.out, alRes, if_neg (show ¬ (dn, dd, s).2.1 = 0 from by simpa using hdd1)]
                exact rfl
              · have hd1 : (dn == 0) = false := by simpa using hd0
                have Hst2 : Hid (alGo X Y least k (s + 1) (dn, dd, s) = alignL X Y reach least) := by unfold Hid; rw [Hst.out]; simp [hd0]
                clear hd0
                go_wp2
                go_roundg k
                case measure => omega
                case rel => exact ⟨s + 1, dn, dd, s, by go_num, rfl, by omega, by omega, HK1.out, Hst2.out, by have := Hdb.out; show _ ∧ _ ∧ _ ∧ _; omega, R8, B8⟩
      · have HG2 : Hid (alGo X Y least k (s + 1) (b0, b1, b2) = alignL X Y reach least) := by
          unfold Hid; rw [← HG.out, alGo_short _ _ _ _ _ _ (by rw [HF.out, ← HTT.out]; exact of_decide_eq_true hlt2)]
        go_wp2
        go_roundg k
        case measure => omega
        case rel => exact ⟨s + 1, b0, b1, b2, by go_num, rfl, by omega, by omega, HK1.out, HG2.out, Hb, HRb, HBw⟩
    · have hg0 : gk = 0 := by omega
      have HFIN : Hid (alignL X Y reach least = (b0, b1, b2)) := by unfold Hid; rw [← HG.out, hg0]; rfl
      clear hg hg0
      have R8 := HRb; have B8 := HBw
      have q0 := R8.out.cell 0; have q1 := R8.out.cell 1
      simp only [List.getElem?_cons_succ, List.getElem?_cons_zero] at q0 q1
      by_cases hz : b1 = 0
      · subst hz
        have HR8 := Lib.hid (HR5.out.old B8.out)
        have z0 := HR8.out.cell 0; have z1 := HR8.out.cell 1
        simp only [List.getElem?_cons_succ, List.getElem?_cons_zero] at z0 z1
        have f0 := HR8.out.free 0; have f1 := HR8.out.free 1
        have hbw : Hid (Below w.heap.size w wr) := HB5.out.trans (B8.out.mono HB5.out.size)
        go_wp2
        try rw [Exit.noGoto_ret]
        have hrow : Row ((wr.setCell ⟨w.heap.size, 0, none⟩ (.int .i64 0)).setCell ⟨w.heap.size, 1, none⟩ (.int .i64 0)) w.heap.size 110 [.int .i64 0, .int .i64 0] := (HR8.out.set 0 _).set 1 _
        refine bodyPost_ret (results_tct rfl _ _ w.heap.size 110 #[.int .i64 0, .int .i64 0] (0, 0) _ rfl hrow Tryz.underlying110 rfl (by kernel_rfl)) rfl ⟨?_, ((hbw.out.setCell (Nat.le_refl _) _).setCell (Nat.le_refl _) _)⟩
        rw [HAL.out, HFIN.out, alRes, if_pos rfl]
        exact rfl
      · have hdd1 : (b1 == 0) = false := by simpa using hz
        clear hz
        go_wp2
        have HR8 := Lib.hid (HR5.out.old HBw.out)
        have z0 := HR8.out.cell 0; have z1 := HR8.out.cell 1
        simp only [List.getElem?_cons_succ, List.getElem?_cons_zero] at z0 z1
        have f0 := HR8.out.free 0; have f1 := HR8.out.free 1
        have n1 : ¬ w.heap.size = w5.heap.size := by have := HR5.out.lt; omega
        have n2 : ¬ w5.heap.size = w.heap.size := fun h => n1 h.symm
        have HS0 : Hid (wr.cell? ⟨w5.heap.size, 0, none⟩ = some (.int .i64 b0) ∧ wr.cell? ⟨w5.heap.size, 1, none⟩ = some (.int .i64 b1)) := ⟨by rw [HRb.out.cell]; rfl, by rw [HRb.out.cell]; rfl⟩
        have hK : ∀ (V : World) o v, (V.cell? ⟨w5.heap.size, 0, none⟩ = some (.int .i64 b0) ∧ V.cell? ⟨w5.heap.size, 1, none⟩ = some (.int .i64 b1)) → ((V.setCell ⟨w.heap.size, o, none⟩ v).cell? ⟨w5.heap.size, 0, none⟩ = some (.int .i64 b0) ∧ (V.setCell ⟨w.heap.size, o, none⟩ v).cell? ⟨w5.heap.size, 1, none⟩ = some (.int .i64 b1)) := fun V o v h => ⟨(World.cell?_setCell_far V _ _ v n1).trans h.1, (World.cell?_setCell_far V _ _ v n1).trans h.2⟩
        have HK := Lib.hid hK
        clear hK
        go_region_held3 (fun w' => w'.cell? ⟨w5.heap.size, 0, none⟩ = some (.int .i64 b0) ∧ w'.cell? ⟨w5.heap.size, 1, none⟩ = some (.int .i64 b1)) (first | assumption | exact HS0.out | exact HK.out _ _ _ (HK.out _ _ _ (by assumption)) | exact HK.out _ _ _ (HK.out _ _ _ HS0.out)) (fail)
        all_goals go_wp2
        try rw [Exit.noGoto_ret]
        have hrow : Row ((wr.setCell ⟨w.heap.size, 0, none⟩ (.int .i64 b0)).setCell ⟨w.heap.size, 1, none⟩ (.int .i64 b1)).drew w.heap.size 110 [.int .i64 b0, .int .i64 b1] := (HR8.out.set 0 _).set 1 _
        have hbw : Below w.heap.size w wr := HB5.out.trans (HBw.out.mono HB5.out.size)
        refine bodyPost_ret (results_tct rfl _ _ w.heap.size 110 #[.int .i64 b0, .int .i64 b1] (0, 0) _ rfl hrow Tryz.underlying110 rfl (by kernel_rfl)) rfl ⟨?_, ((hbw.setCell (Nat.le_refl _) _).setCell (Nat.le_refl _) _).drew⟩
        rw [HAL.out, HFIN.out, alRes, if_neg (show ¬ (b0, b1, b2).2.1 = 0 from by simpa using hdd1)]
        exact rfl

end Go.Proofs.YtoclnlimnjnbkaaGreatDoor
