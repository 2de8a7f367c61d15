import Derived.Test.YtjdniebjhilooaaGreatDoorM19
import Derived.WalkMore
import Derived.Deep.LoopGhost
namespace Go.Proofs.YtjdniebjhilooaaGreatDoor
set_option linter.all false
open Go.RowKit Go.Fl
theorem results_tct {P : Program} {fn : Func} {p t1 t2 : Tmp} {ty : TypeId} (h : fn.results = #[.tmp t1, .cell p ty, .tmp t2]) (tmps : Array Value) (w : World) (g : Nat) (e : TypeId) (cs : Array Value) (fr : Nat × Nat) (d : TypeDesc)
 (hp : tmps.getD p undef = .pointer (some ⟨g, 0, none⟩)) (hg : w.heap[g]? = some (.cells cs e fr))
 (hu : P.underlying ty = some d) (hd : (match d with | .struct _ | .array _ _ => true | _ => false) = true) (hi : (P.info? ty).map (·.size) = some cs.size) :
 (results fn tmps).run P w = .ok (.tuple #[tmps.getD t1 undef, .agg cs, tmps.getD t2 undef]) w := by
 have hp' : tmps[p]?.getD undef = .pointer (some ⟨g, 0, none⟩) := by simpa using hp
 simp [results, h, hp', asAddr, run_loadVar_row w g e ty cs fr d hg hu hd hi]
def alGo (x y : List Int) (least : Int) : Nat → Int → Int × Int × Int → Int × Int × Int
 | 0, _, b => b
 | g + 1, s, b =>
   if min (x.length : Int) (y.length - s) - max 0 (-s) < least then alGo x y least g (s + 1) b
   else
    let n := (min (x.length : Int) (y.length - s) - max 0 (-s)).toNat
    let X := (x.drop (max 0 (-s)).toNat).take n
    let Y := (y.drop (max 0 (-s) + s).toNat).take n
    let b' := if b.2.1 = 0 ∨ difN X Y * b.2.1 < b.1 * difD X Y then (difN X Y, difD X Y, s) else b
    if b'.1 = 0 then b' else alGo x y least g (s + 1) b'
def alignL (x y : List Int) (reach least : Int) : Int × Int × Int := alGo x y least (2 * reach + 1).toNat (-reach) (0, 0, 0)
def alRes (r : Int × Int × Int) : Array Value := if r.2.1 = 0 then #[.int .i64 0, .agg #[.int .i64 0, .int .i64 0], .int .i64 16] else #[.int .i64 r.2.2, .agg #[.int .i64 r.1, .int .i64 r.2.1], .int .i64 0]
theorem dif_bd (xs ys : List Int) (h0 : 0 < xs.length) (h1 : xs.length ≤ 4096) (hx : ∀ x ∈ xs, x.natAbs ≤ 65536) (hy : ∀ y ∈ ys, y.natAbs ≤ 65536) : (0 ≤ difN xs ys ∧ difN xs ys ≤ 536870912) ∧ 1 ≤ difD xs ys ∧ difD xs ys ≤ 4096 := by
 have hb := absSum_bd xs ys hx hy
 have hg : 0 < gcdI (absSum xs ys) xs.length := by
  unfold gcdI
  have := Int.gcd_pos_of_ne_zero_right (absSum xs ys) (b := (xs.length : Int)) (by omega)
  omega
 have hd : gcdI (absSum xs ys) xs.length ∣ (xs.length : Int) := Int.gcd_dvd_right ..
 unfold difN difD
 refine ⟨⟨Int.tdiv_nonneg hb.1 (by omega), ?_⟩, ?_, ?_⟩
 · rw [Int.tdiv_eq_ediv_of_nonneg hb.1]
   have := Int.ediv_le_self (gcdI (absSum xs ys) xs.length) hb.1
   omega
 · have := Int.le_of_dvd (by omega) hd
   exact (Int.le_ediv_iff_mul_le hg).2 (by omega)
 · have := Int.ediv_le_self (a := (xs.length : Int)) (gcdI (absSum xs ys) xs.length) (by omega)
   omega
theorem alGo_short (x y : List Int) (least : Int) (g : Nat) (s : Int) (b : Int × Int × Int) (h : min (x.length : Int) (y.length - s) - max 0 (-s) < least) : alGo x y least (g + 1) s b = alGo x y least g (s + 1) b := by rw [alGo, if_pos h]
theorem alGo_long (x y : List Int) (least : Int) (g : Nat) (s : Int) (b : Int × Int × Int) (f t f2 : Nat) (hf : max 0 (-s) = f) (ht : min (x.length : Int) (y.length - s) = t) (hf2 : (f : Int) + s = f2) (h : ¬ ((t : Int) - f < least)) :
 alGo x y least (g + 1) s b = (let b' := if b.2.1 = 0 ∨ difN ((x.drop f).take (t - f)) ((y.drop f2).take (t - f)) * b.2.1 < b.1 * difD ((x.drop f).take (t - f)) ((y.drop f2).take (t - f)) then (difN ((x.drop f).take (t - f)) ((y.drop f2).take (t - f)), difD ((x.drop f).take (t - f)) ((y.drop f2).take (t - f)), s) else b
  if b'.1 = 0 then b' else alGo x y least g (s + 1) b') := by
 rw [alGo, hf, ht, if_neg h, hf2]
 have e : ((t : Int) - (f : Int)).toNat = t - f := by omega
 rw [e, Int.toNat_natCast, Int.toNat_natCast]
set_option maxRecDepth 100000 in
set_option maxHeartbeats 3000000 in
theorem aligned_any (A B : Option Addr) (c d : Nat) (xs ys : List Nat) (n m : Nat) (reach least : Int) (w : World) (hA : Rd w A (flts xs)) (hB : Rd w B (flts ys)) (hn : n = xs.length) (hm : m = ys.length) (hx : xs.length ≤ 4096) (hy : ys.length ≤ 4096) (hsx : sampsI xs = 0) (hsy : sampsI ys = 0) (hvx : ∀ x ∈ xs, sampI x = 0) (hvy : ∀ y ∈ ys, sampI y = 0) (hr : 0 ≤ reach ∧ reach ≤ 256) (hl : 1 ≤ least ∧ least ≤ 4096) :
 Calls Tryz.prog 40 #[.slice A n c, .slice B m d, .int .i64 reach, .int .i64 least] w fun e w' => e = .returned (.tuple (alRes (alignL (xs.map unitI) (ys.map unitI) reach least))) ∧ Below w.heap.size w w' := by
 subst hn; subst hm
 have HA : Hid (∀ W, Below w.heap.size w W → Rd W A (flts xs)) := fun W h => hA.below h
 have HB : Hid (∀ W, Below w.heap.size w W → Rd W B (flts ys)) := fun W h => hB.below h
 have HSX := Lib.hid hsx; have HSY := Lib.hid hsy; have HVX := Lib.hid hvx; have HVY := Lib.hid hvy
 have HZ1 : Hid (whenI (rangeB reach 0 256) 3 = 0) := by unfold Hid whenI rangeB; simp; omega
 have HZ2 : Hid (whenI (rangeB least 1 4096) 3 = 0) := by unfold Hid whenI rangeB; simp; omega
 clear hA hB hsx hsy hvx hvy
 go_enter Tryz.func40, Tryz.ntmps40
 go_wp2
 refine genF w.heap.size 110 [.int .i64 0, .int .i64 0] (Row.new w 110 [.int .i64 0, .int .i64 0]) ((Below.refl w.heap.size w).alloc (Nat.le_refl _) _) ?_
 intro W R0 RB
 have HR := Lib.hid R0; have HRB := Lib.hid RB
 clear R0 RB
 go_step3
 go_wp2_with (first
  | (go_at_call 87; refine Calls.mono (checkSamples_any _ _ _ ?_ _ ?_ ?_) ?_; rotate_left; (first | exact HA.out _ HRB.out | exact HB.out _ HB1.out); rfl; rintro e w1 ⟨rfl, hb1⟩; (first | have HB1 := Lib.hid (HB1.out.trans (hb1.mono HB1.out.size)) | have HB1 := Lib.hid (HRB.out.trans (hb1.mono HRB.out.size))); (first | have HR1 := Lib.hid (HR1.out.old hb1) | have HR1 := Lib.hid (HR.out.old hb1)); (first | rw [HSX.out] | rw [HSY.out]); clear hb1)
  | (go_at_call 78; refine (between_any _ _ _ _).mono ?_; rintro e w3 ⟨rfl, rfl⟩; (first | rw [HZ1.out] | rw [HZ2.out]))
  | (go_at_call 76; refine (firstV_any _ _ _ [0, 0, 0, 0] _ ?_ rfl (by simp)).mono ?_; exact Rd.new _ _ _ _ (by simp); rintro e w3 ⟨rfl, rfl⟩))
 have hb1 := HB1.out.alloc HB1.out.size (.cells #[.int .i64 0, .int .i64 0, .int .i64 0, .int .i64 0] 28)
 refine (mappedUnit_any A _ _ xs _ (HA.out _ hb1) rfl (by omega) HVX.out).mono ?_
 rintro e w4 ⟨gx, rfl, hrx, hgx, hb4⟩
 have HB4 := Lib.hid (hb1.trans (hb4.mono hb1.size))
 have HR4 := Lib.hid ((HR1.out.alloc _).old hb4)
 have HX4 := Lib.hid hrx
 clear hb1 hrx hgx hb4
 go_wp2_with fail
 refine (mappedUnit_any B _ _ ys _ (HB.out _ HB4.out) rfl (by omega) HVY.out).mono ?_
 rintro e w5 ⟨gy, rfl, hry, hgy, hb5⟩
 have HB5 := Lib.hid (HB4.out.trans (hb5.mono HB4.out.size))
 have HR5 := Lib.hid (HR4.out.old hb5)
 have HX5 := Lib.hid (HX4.out.old hb5)
 have HY5 := Lib.hid hry
 clear hry hgy hb5 HB4 HR4 HX4 HB1 HR1
 go_wp2
 go_step3
 have hneg : IntKind.i64.wrap (-reach) = -reach := IntWalk.i64_in _ (by omega)
 go_upto_region 6 with fail
 have r6 : Row (w5.alloc (.cells #[.int .i64 0, .int .i64 0] 110)) w5.heap.size 110 [.int .i64 0, .int .i64 0] := Row.new w5 _ [.int .i64 0, .int .i64 0]
 refine genF w5.heap.size 110 [.int .i64 0, .int .i64 0] r6 ((Below.refl w5.heap.size w5).alloc (Nat.le_refl _) _) ?_
 clear r6
 intro w6 r6 b6
 have R6 := Lib.hid r6; have B6 := Lib.hid b6
 clear r6 b6
 go_wp2
 obtain ⟨X, hX⟩ : ∃ X, X = xs.map unitI := ⟨_, rfl⟩
 obtain ⟨Y, hY⟩ : ∃ Y, Y = ys.map unitI := ⟨_, rfl⟩
 have HXL : Hid (X.length = xs.length ∧ Y.length = ys.length) := by rw [hX, hY]; exact ⟨List.length_map _, List.length_map _⟩
 have HXB : Hid (∀ x ∈ X, x.natAbs ≤ 65536) := by
  rw [hX]; intro x hx; obtain ⟨v, hv, rfl⟩ := List.mem_map.1 hx; have := unitI_bd (HVX.out v hv); omega
 have HYB : Hid (∀ y ∈ Y, y.natAbs ≤ 65536) := by
  rw [hY]; intro x hx; obtain ⟨v, hv, rfl⟩ := List.mem_map.1 hx; have := unitI_bd (HVY.out v hv); omega
 have HX5 : Hid (Row w5 gx 3 (ints X)) := by rw [hX]; exact HX5.out
 have HY5 : Hid (Row w5 gy 3 (ints Y)) := by rw [hY]; exact HY5.out
 have HAL : Hid (alignL (xs.map unitI) (ys.map unitI) reach least = alignL X Y reach least) := by unfold Hid; rw [hX, hY]
 clear hX hY HA HB HSX HSY HVX HVY HZ1 HZ2
 go_loopg [15, 16] (2 * reach + 1).toNat (fun g sh s wr => ∃ (s' : Int) (b0 b1 b2 : Int), s = .int .i64 s' ∧ sh = .int .i64 b2 ∧ -reach ≤ s' ∧ s' ≤ reach + 1 ∧ g = (reach - s' + 1).toNat ∧ Hid (alGo X Y least g s' (b0, b1, b2) = alignL X Y reach least) ∧ Hid (0 ≤ b0 ∧ b0 ≤ 536870912 ∧ 0 ≤ b1 ∧ b1 ≤ 4096) ∧ Hid (Row wr w5.heap.size 110 [.int .i64 b0, .int .i64 b1]) ∧ Hid (Below w5.heap.size w5 wr))
 case atStart => exact ⟨-reach, 0, 0, 0, rfl, rfl, by omega, by omega, by omega, rfl, ⟨by decide, by decide, by decide, by decide⟩, R6, B6⟩
 case round =>
  obtain ⟨s, b0, b1, b2, rfl, rfl, hs1, hs2, hg, HG, Hb, HRb, HBw⟩ := hrel
  by_cases hlt : s ≤ reach
  · have hX := HXL.out.1; have hY := HXL.out.2
    obtain ⟨k, hk⟩ : ∃ k, (reach - s + 1).toNat = k + 1 := ⟨(reach - s).toNat, by omega⟩
    subst hg
    rw [hk] at HG
    have hk1 : k = (reach - (s + 1) + 1).toNat := by omega
    obtain ⟨f, hf⟩ : ∃ f : Nat, max 0 (-s) = (f : Int) := ⟨(max 0 (-s)).toNat, by omega⟩
    obtain ⟨tt, ht⟩ : ∃ tt, tt = min (X.length : Int) (Y.length - s) := ⟨_, rfl⟩
    have e1 : IntKind.i64.wrap (-s) = -s := IntWalk.i64_in _ (by omega)
    have e2 : IntKind.i64.wrap ((ys.length : Int) - s) = (ys.length : Int) - s := IntWalk.i64_in _ (by omega)
    have e3 : IntKind.i64.wrap (tt - f) = tt - f := IntWalk.i64_in _ (by omega)
    have e4 : wrap64 (s + 1) = s + 1 := by unfold wrap64; omega
    have hfr : (if s < 0 then -s else 0) = (f : Int) := by split <;> omega
    have hfr2 : (if 0 < -s then -s else 0) = (f : Int) := by split <;> omega
    have hto : (if (ys.length : Int) - s < xs.length then (ys.length : Int) - s else xs.length) = tt := by split <;> omega
    have HTT := Lib.hid ht; have HF := Lib.hid hf; have HK1 := Lib.hid hk1
    clear ht hf hk1
    cases hlt2 : decide (tt - f < least)
    · have hge : least ≤ tt - f := by have := of_decide_eq_false hlt2; omega
      have ht := HTT.out; have hf := HF.out
      obtain ⟨t, htt⟩ : ∃ t : Nat, tt = (t : Int) := ⟨tt.toNat, by omega⟩
      subst htt
      obtain ⟨f2, hf2⟩ : ∃ f2 : Nat, (f : Int) + s = (f2 : Int) := ⟨((f : Int) + s).toNat, by omega⟩
      obtain ⟨t2, ht2⟩ : ∃ t2 : Nat, (t : Int) + s = (t2 : Int) := ⟨((t : Int) + s).toNat, by omega⟩
      have hfs : IntKind.i64.wrap ((f : Int) + s) = (f2 : Int) := by rw [hf2]; exact IntWalk.i64_in _ (by omega)
      have hts : IntKind.i64.wrap ((t : Int) + s) = (t2 : Int) := by rw [ht2]; exact IntWalk.i64_in _ (by omega)
      obtain ⟨A1, hsl1, hR1, -⟩ := slice_mid (P := Tryz.prog) 92 (by kernel_rfl) (fun _ => by kernel_rfl) (some ⟨gx, 0, none⟩) xs.length xs.length f t (by omega) (by omega) (Nat.le_refl _) (fun h => by cases h)
      obtain ⟨A2, hsl2, hR2, -⟩ := slice_mid (P := Tryz.prog) 92 (by kernel_rfl) (fun _ => by kernel_rfl) (some ⟨gy, 0, none⟩) ys.length ys.length f2 t2 (by omega) (by omega) (Nat.le_refl _) (fun h => by cases h)
      have hn : t2 - f2 = t - f := by omega
      rw [hn] at hR2
      simp only [hn] at hsl2
      have hlX : ((X.drop f).take (t - f)).length = t - f := by rw [List.length_take, List.length_drop]; omega
      have hlY : ((Y.drop f2).take (t - f)).length = t - f := by rw [List.length_take, List.length_drop]; omega
      have hbX : ∀ x ∈ (X.drop f).take (t - f), x.natAbs ≤ 65536 := fun x h => HXB.out x (List.mem_of_mem_drop (List.mem_of_mem_take h))
      have hbY : ∀ y ∈ (Y.drop f2).take (t - f), y.natAbs ≤ 65536 := fun y h => HYB.out y (List.mem_of_mem_drop (List.mem_of_mem_take h))
      have hdb := dif_bd _ ((Y.drop f2).take (t - f)) (by rw [hlX]; omega) (by rw [hlX]; omega) hbX hbY
      have hgl := alGo_long X Y least k s (b0, b1, b2) f t f2 hf ht.symm hf2 (of_decide_eq_false hlt2)
      have HD : Hid (∀ W, Below w5.heap.size w5 W → Calls Tryz.prog 100 #[.slice A1 (t - f) (xs.length - f), .slice A2 (t - f) (ys.length - f2)] W fun e w' => e = .returned (.agg #[.int .i64 (difN ((X.drop f).take (t - f)) ((Y.drop f2).take (t - f))), .int .i64 (difD ((X.drop f).take (t - f)) ((Y.drop f2).take (t - f)))]) ∧ Below W.heap.size W w') := fun W hW =>
       difference_any A1 A2 _ _ ((X.drop f).take (t - f)) ((Y.drop f2).take (t - f)) (t - f) W
        (by have h := hR1 W (ints X) (Rd.row (HX5.out.old hW)); simpa only [ints, List.map_drop, List.map_take] using h)
        (by have h := hR2 W (ints Y) (Rd.row (HY5.out.old hW)); simpa only [ints, List.map_drop, List.map_take] using h)
        hlX.symm (by rw [hlX, hlY]) (by rw [hlX]; omega) (by rw [hlX]; omega) hbX hbY
      obtain ⟨dn, hdn⟩ : ∃ dn, dn = difN ((X.drop f).take (t - f)) ((Y.drop f2).take (t - f)) := ⟨_, rfl⟩
      obtain ⟨dd, hdd⟩ : ∃ dd, dd = difD ((X.drop f).take (t - f)) ((Y.drop f2).take (t - f)) := ⟨_, rfl⟩
      simp only [← hdn, ← hdd] at HD hgl hdb
      have Hgl := Lib.hid hgl; have Hdb := Lib.hid hdb; have He4 := Lib.hid e4
      clear hgl hdb hdn hdd hlX hlY hbX hbY hR1 hR2 hf2 ht2 hf ht hX hY HTT
      go_wp2
      go_cut [19] (fun s19 wx => ∃ g : Nat, s19 = .pointer (some ⟨g, 0, none⟩) ∧ Row wx g 110 [.int .i64 dn, .int .i64 dd] ∧ wr.heap.size ≤ g ∧ Below wr.heap.size wr wx)
      case first =>
       refine wp_region_held_drew (S := fun w' => Below wr.heap.size wr w') (by kernel_rfl) ?_ (fun hHeld => ?_)
       · exact (Below.refl _ _).drew
       refine wpAnyH_take (i := 0) (oi := ⟨some 61, _, _, _, _, _⟩) (v := ?_) rfl (by kernel_rfl) (by kernel_rfl) (by kernel_rfl) (fun _ _ _ h => h) (Or.inl ⟨by kernel_rfl, ?_⟩) hHeld ?_
       rotate_left
       · intro w1 hSw; (try dsimp only at hSw); go_simp <;> with_reducible rfl
       try simp only [Act.put, List.setIfInBounds_toArray, List.set_cons_zero, List.set_cons_succ]
       refine wpAnyH_take (i := 1) (oi := ⟨some 62, _, _, _, _, _⟩) (v := ?_) rfl (by kernel_rfl) (by kernel_rfl) (by kernel_rfl) (fun _ _ _ h => h) (Or.inl ⟨by kernel_rfl, ?_⟩) hHeld ?_
       rotate_left
       · intro w1 hSw; (try dsimp only at hSw); go_simp <;> with_reducible rfl
       try simp only [Act.put, List.setIfInBounds_toArray, List.set_cons_zero, List.set_cons_succ]
       refine wpAnyH_take (i := 2) (oi := ⟨some 63, _, _, _, _, _⟩) (v := ?_) rfl (by kernel_rfl) (by kernel_rfl) (by kernel_rfl) (fun _ _ _ h => h) (Or.inl ⟨by kernel_rfl, ?_⟩) hHeld ?_
       rotate_left
       · intro w1 hSw; (try dsimp only at hSw); go_simp <;> with_reducible rfl
       try simp only [Act.put, List.setIfInBounds_toArray, List.set_cons_zero, List.set_cons_succ]
       refine wpAnyH_take (i := 3) (oi := ⟨some 64, _, _, _, _, _⟩) (v := ?_) rfl (by kernel_rfl) (by kernel_rfl) (by kernel_rfl) (fun _ _ _ h => h) (Or.inl ⟨by kernel_rfl, ?_⟩) hHeld ?_
       rotate_left
       · intro w1 hSw; (try dsimp only at hSw); go_simp <;> with_reducible rfl
       try simp only [Act.put, List.setIfInBounds_toArray, List.set_cons_zero, List.set_cons_succ]
       refine wpAnyH_take (i := 4) (oi := ⟨some 65, _, _, _, _, _⟩) (v := ?_) rfl (by kernel_rfl) (by kernel_rfl) (by kernel_rfl) (fun _ _ _ h => h) (Or.inl ⟨by kernel_rfl, ?_⟩) hHeld ?_
       rotate_left
       · intro w1 hSw; (try dsimp only at hSw); go_simp <;> with_reducible rfl
       try simp only [Act.put, List.setIfInBounds_toArray, List.set_cons_zero, List.set_cons_succ]
       refine wpAnyH_take (i := 5) (oi := ⟨some 66, _, _, _, _, _⟩) (v := ?_) rfl (by kernel_rfl) (by kernel_rfl) (by kernel_rfl) (fun _ _ _ h => h) (Or.inl ⟨by kernel_rfl, ?_⟩) hHeld ?_
       rotate_left
       · intro w1 hSw; (try dsimp only at hSw); go_simp <;> with_reducible rfl
       try simp only [Act.put, List.setIfInBounds_toArray, List.set_cons_zero, List.set_cons_succ]
       refine wpAnyH_take (i := 6) (oi := ⟨some 67, _, _, _, _, _⟩) (v := ?_) rfl (by kernel_rfl) (by kernel_rfl) (by kernel_rfl) (fun _ _ _ h => h) (Or.inl ⟨by kernel_rfl, ?_⟩) hHeld ?_
       rotate_left
       · intro w1 hSw; (try dsimp only at hSw); go_simp <;> with_reducible rfl
       try simp only [Act.put, List.setIfInBounds_toArray, List.set_cons_zero, List.set_cons_succ]
       refine wpAnyH_take (i := 7) (oi := ⟨some 68, _, _, _, _, _⟩) (v := ?_) rfl (by kernel_rfl) (by kernel_rfl) (by kernel_rfl) (fun _ _ _ h => h) (Or.inl ⟨by kernel_rfl, ?_⟩) hHeld ?_
       rotate_left
       · intro w1 hSw; (try dsimp only at hSw); go_simp <;> with_reducible rfl
       try simp only [Act.put, List.setIfInBounds_toArray, List.set_cons_zero, List.set_cons_succ]
       refine wpAnyH_take (i := 8) (oi := ⟨some 69, _, _, _, _, _⟩) (v := ?_) rfl (by kernel_rfl) (by kernel_rfl) (by kernel_rfl) (fun _ _ _ h => h) (Or.inl ⟨by kernel_rfl, ?_⟩) hHeld ?_
       rotate_left
       · intro w1 hSw; (try dsimp only at hSw); go_simp <;> with_reducible rfl
       try simp only [Act.put, List.setIfInBounds_toArray, List.set_cons_zero, List.set_cons_succ]
       refine wpAnyH_take (i := 9) (oi := ⟨some 70, _, _, _, _, _⟩) (v := ?_) rfl (by kernel_rfl) (by kernel_rfl) (by kernel_rfl) (fun _ _ _ h => h) (Or.inl ⟨by kernel_rfl, ?_⟩) hHeld ?_
       rotate_left
       · intro w1 hSw; (try dsimp only at hSw); go_simp <;> with_reducible rfl
       try simp only [Act.put, List.setIfInBounds_toArray, List.set_cons_zero, List.set_cons_succ]
       refine wpAnyH_take (i := 10) (oi := ⟨some 71, _, _, _, _, _⟩) (v := ?_) rfl (by kernel_rfl) (by kernel_rfl) (by kernel_rfl) (fun _ _ _ h => h) (Or.inl ⟨by kernel_rfl, ?_⟩) hHeld ?_
       rotate_left
       · intro w1 hSw; (try dsimp only at hSw); go_simp <;> with_reducible rfl
       try simp only [Act.put, List.setIfInBounds_toArray, List.set_cons_zero, List.set_cons_succ]
       refine wpAnyH_take (i := 11) (oi := ⟨some 72, _, _, _, _, _⟩) (v := ?_) rfl (by kernel_rfl) (by kernel_rfl) (by kernel_rfl) (fun _ _ _ h => h) (Or.inl ⟨by kernel_rfl, ?_⟩) hHeld ?_
       rotate_left
       · intro w1 hSw; (try dsimp only at hSw); go_simp <;> with_reducible rfl
       try simp only [Act.put, List.setIfInBounds_toArray, List.set_cons_zero, List.set_cons_succ]
       refine wpAnyH_ready (rs := [12, 13]) (by kernel_rfl) (by simp) ?_
       refine AllReadyH.cons rfl (fun K hK => ?_) (AllReadyH.cons rfl (fun K hK => ?_) (AllReadyH.nil))
       ·
        go_simp
        go_at_call 100
        refine (HD.out _ (HBw.out.trans (hHeld.mono HBw.out.size))).mono ?_
        rintro e w2 ⟨rfl, hb2⟩
        try go_simp
        refine hK.out _ _ ?_ (fun hHeld => ?_)
        · exact hHeld.trans (hb2.mono hHeld.size)
        clear hK K
        try simp only [Act.put, List.setIfInBounds_toArray, List.set_cons_zero, List.set_cons_succ]
        refine wpAnyH_ready (rs := [13]) (by kernel_rfl) (by simp) ?_
        refine AllReadyH.cons rfl (fun K hK => ?_) (AllReadyH.nil)
        go_simp
        refine hK.out _ _ ?_ (fun hHeld => ?_)
        · exact hHeld.alloc hHeld.size _
        clear hK K
        try simp only [Act.put, List.setIfInBounds_toArray, List.set_cons_zero, List.set_cons_succ]
        refine wpAnyH_ready (rs := [14]) (by kernel_rfl) (by simp) ?_
        refine AllReadyH.cons rfl (fun K hK => ?_) (AllReadyH.nil)
        have zb := (Below.refl _ wr).drew.trans hb2
        have hz := Row.new w2 110 [.int .i64 0, .int .i64 0]
        refine step_store_row rfl 110 _ _ rfl w2.heap.size [.int .i64 dn, .int .i64 dd] rfl rfl 110 [.int .i64 0, .int .i64 0] hz (by kernel_rfl) rfl (by simp [Value.oneCell']) ?_
        refine hK.out _ _ ?_ (fun hHeld => ?_)
        · exact Below.setRow hHeld zb.size _
        clear hK K
        try simp only [Act.put, List.setIfInBounds_toArray, List.set_cons_zero, List.set_cons_succ]
        refine wpAnyH_done (by kernel_rfl) ?_ _
        go_wp2_with fail
        go_meet
        exact ⟨w2.heap.size, rfl, hz.setRow _, zb.size, Below.setRow (zb.alloc zb.size _) zb.size _⟩
       ·
        go_simp
        refine hK.out _ _ ?_ (fun hHeld => ?_)
        · exact hHeld.alloc hHeld.size _
        clear hK K
        try simp only [Act.put, List.setIfInBounds_toArray, List.set_cons_zero, List.set_cons_succ]
        refine wpAnyH_ready (rs := [12]) (by kernel_rfl) (by simp) ?_
        refine AllReadyH.cons rfl (fun K hK => ?_) (AllReadyH.nil)
        go_simp
        go_at_call 100
        refine (HD.out _ (HBw.out.trans (hHeld.mono HBw.out.size))).mono ?_
        rintro e w2 ⟨rfl, hb2⟩
        try go_simp
        refine hK.out _ _ ?_ (fun hHeld => ?_)
        · exact hHeld.trans (hb2.mono hHeld.size)
        clear hK K
        try simp only [Act.put, List.setIfInBounds_toArray, List.set_cons_zero, List.set_cons_succ]
        refine wpAnyH_ready (rs := [14]) (by kernel_rfl) (by simp) ?_
        refine AllReadyH.cons rfl (fun K hK => ?_) (AllReadyH.nil)
        have hz : Row w2 wr.heap.size 110 [.int .i64 0, .int .i64 0] := Row.old (w := (wr.drew.alloc (.cells #[.int .i64 0, .int .i64 0] 110))) (Row.new wr.drew 110 [.int .i64 0, .int .i64 0]) hb2
        refine step_store_row rfl 110 _ _ rfl wr.heap.size [.int .i64 dn, .int .i64 dd] rfl rfl 110 [.int .i64 0, .int .i64 0] hz (by kernel_rfl) rfl (by simp [Value.oneCell']) ?_
        refine hK.out _ _ ?_ (fun hHeld => ?_)
        · exact Below.setRow hHeld (Nat.le_refl _) _
        clear hK K
        try simp only [Act.put, List.setIfInBounds_toArray, List.set_cons_zero, List.set_cons_succ]
        refine wpAnyH_done (by kernel_rfl) ?_ _
        go_wp2_with fail
        go_meet
        have zb : Below wr.heap.size wr w2 := ((Below.refl _ wr).drew.alloc (Nat.le_refl _) _).trans (hb2.mono (by simp))
        exact ⟨wr.heap.size, rfl, hz.setRow _, Nat.le_refl _, Below.setRow zb (Nat.le_refl _) _⟩
      case rest =>
       obtain ⟨g, rfl, hrow, hgw, hbw⟩ := hcut
       have hb2 := HRb.out.old hbw
       have HRg := Lib.hid hrow; have HRb2 := Lib.hid hb2
       have HB2 := Lib.hid (HBw.out.trans (hbw.mono HBw.out.size))
       have z1 := HRb.out.lt
       have z2 := hrow.lt
       have z3 := hb2.lt
       have p0 := hb2.cell 0; have p1 := hb2.cell 1; have r0 := hrow.cell 0; have r1 := hrow.cell 1
       simp only [List.getElem?_cons_succ, List.getElem?_cons_zero] at p0 p1 r0 r1
       have hmul : (-4611686018427387904 ≤ dn * b1 ∧ dn * b1 ≤ 4611686018427387904) ∧ (-4611686018427387904 ≤ b0 * dd ∧ b0 * dd ≤ 4611686018427387904) := by
        have h1 := Hdb.out; have h2 := Hb.out
        have m1 : dn * b1 ≤ 536870912 * 4096 := Int.mul_le_mul h1.1.2 h2.2.2.2 h2.2.2.1 (by decide)
        have m2 : b0 * dd ≤ 536870912 * 4096 := Int.mul_le_mul h2.2.1 h1.2.2 (by omega) (by decide)
        have m3 : 0 ≤ dn * b1 := Int.mul_nonneg h1.1.1 h2.2.2.1
        have m4 : 0 ≤ b0 * dd := Int.mul_nonneg h2.1 (by omega)
        omega
       have Hmul := Lib.hid hmul
       clear hrow hb2 hbw hmul
       have hne : Hid (w5.heap.size ≠ g) := by unfold Hid; omega
       by_cases hz : b1 = 0
       · subst hz
         go_upto_region 14 with (refine wpList_store_row rfl 110 _ _ rfl w5.heap.size #[.int .i64 dn, .int .i64 dd] rfl rfl 110 _ HRb2.out ?_ ?_ ?_ ?_; (kernel_rfl); (rfl); (simp [Value.oneCell']))
         refine genA (w0 := w5) w5.heap.size 110 [.int .i64 dn, .int .i64 dd] (HRb2.out.setRow _) (Below.setRow HB2.out (Nat.le_refl _) _) ?_
         intro w8 r8 b8
         have R8 := Lib.hid r8; have B8 := Lib.hid b8
         have q0 := r8.cell 0; have q1 := r8.cell 1
         simp only [List.getElem?_cons_succ, List.getElem?_cons_zero] at q0 q1
         have Hst : Hid (alignL X Y reach least = if dn = 0 then (dn, dd, s) else alGo X Y least k (s + 1) (dn, dd, s)) := by
          unfold Hid; rw [← HG.out, Hgl.out]; simp
         clear r8 b8 p0 p1 r0 r1
         by_cases hd0 : dn = 0
         · have hd1 : (dn == 0) = true := by simpa using hd0
           have hdd1 : (dd == 0) = false := by have := Hdb.out; simp; omega
           have HFIN : Hid (alignL X Y reach least = (dn, dd, s)) := by unfold Hid; rw [Hst.out, if_pos hd0]
           clear hd0
           go_wp2
           have HR8 := Lib.hid (HR5.out.old B8.out)
           have z0 := HR8.out.cell 0; have z1 := HR8.out.cell 1
           simp only [List.getElem?_cons_succ, List.getElem?_cons_zero] at z0 z1
           have f0 := HR8.out.free 0; have f1 := HR8.out.free 1
           have n1 : ¬ w.heap.size = w5.heap.size := by have := HR5.out.lt; omega
           have n2 : ¬ w5.heap.size = w.heap.size := fun h => n1 h.symm
           have HS0 : Hid (w8.cell? ⟨w5.heap.size, 0, none⟩ = some (.int .i64 dn) ∧ w8.cell? ⟨w5.heap.size, 1, none⟩ = some (.int .i64 dd)) := ⟨by rw [R8.out.cell]; rfl, by rw [R8.out.cell]; rfl⟩
           have hK : ∀ (V : World) o v, (V.cell? ⟨w5.heap.size, 0, none⟩ = some (.int .i64 dn) ∧ V.cell? ⟨w5.heap.size, 1, none⟩ = some (.int .i64 dd)) → ((V.setCell ⟨w.heap.size, o, none⟩ v).cell? ⟨w5.heap.size, 0, none⟩ = some (.int .i64 dn) ∧ (V.setCell ⟨w.heap.size, o, none⟩ v).cell? ⟨w5.heap.size, 1, none⟩ = some (.int .i64 dd)) := fun V o v h => ⟨(World.cell?_setCell_far V _ _ v n1).trans h.1, (World.cell?_setCell_far V _ _ v n1).trans h.2⟩
           have HK := Lib.hid hK
           clear hK
           go_region_held3 (fun w' => w'.cell? ⟨w5.heap.size, 0, none⟩ = some (.int .i64 dn) ∧ w'.cell? ⟨w5.heap.size, 1, none⟩ = some (.int .i64 dd)) (first | assumption | exact HS0.out | exact HK.out _ _ _ (HK.out _ _ _ (by assumption)) | exact HK.out _ _ _ (HK.out _ _ _ HS0.out)) (fail)
           all_goals go_wp2
           try rw [Exit.noGoto_ret]
           have hrow : Row ((w8.setCell ⟨w.heap.size, 0, none⟩ (.int .i64 dn)).setCell ⟨w.heap.size, 1, none⟩ (.int .i64 dd)).drew w.heap.size 110 [.int .i64 dn, .int .i64 dd] := (HR8.out.set 0 _).set 1 _
           have hbw : Below w.heap.size w w8 := HB5.out.trans (B8.out.mono HB5.out.size)
           refine bodyPost_ret (results_tct rfl _ _ w.heap.size 110 #[.int .i64 dn, .int .i64 dd] (0, 0) _ rfl hrow Tryz.underlying110 rfl (by kernel_rfl)) rfl ⟨?_, ((hbw.setCell (Nat.le_refl _) _).setCell (Nat.le_refl _) _).drew⟩
           rw [HAL.out, HFIN.out, alRes, if_neg (show ¬ (dn, dd, s).2.1 = 0 from by simpa using hdd1)]
           exact rfl
         · have hd1 : (dn == 0) = false := by simpa using hd0
           have Hst2 : Hid (alGo X Y least k (s + 1) (dn, dd, s) = alignL X Y reach least) := by unfold Hid; rw [Hst.out, if_neg hd0]
           clear hd0
           go_wp2
           go_roundg k
           case measure => omega
           case rel => exact ⟨s + 1, dn, dd, s, by go_num, rfl, by omega, by omega, HK1.out, Hst2.out, by have := Hdb.out; show _ ∧ _ ∧ _ ∧ _; omega, R8, B8⟩
       · have hz1 : (b1 == 0) = false := by simpa using hz
         have HZ := Lib.hid hz
         obtain ⟨lt, hlt9⟩ : ∃ lt, lt = decide (dn * b1 < b0 * dd) := ⟨_, rfl⟩
         have HLS : Hid (∀ W, Calls Tryz.prog 101 #[.agg #[.int .i64 dn, .int .i64 dd], .agg #[.int .i64 b0, .int .i64 b1]] W fun e w' => e = .returned (.bool lt) ∧ Below W.heap.size W w') := fun W => by
          rw [hlt9]; exact isLess_any dn dd b0 b1 W Hmul.out.1.1 Hmul.out.1.2 Hmul.out.2.1 Hmul.out.2.2
         have Hlt := Lib.hid hlt9
         have Hst : Hid (alignL X Y reach least = (let b' := if lt = true then (dn, dd, s) else (b0, b1, b2); if b'.1 = 0 then b' else alGo X Y least k (s + 1) b')) := by
          unfold Hid; rw [← HG.out, Hgl.out, hlt9]
          by_cases hq : dn * b1 < b0 * dd
          · simp [hq]
          · simp [hq, hz]
         clear hz hlt9
         cases lt
         · go_upto_region 14 with (go_at_call 101; refine (HLS.out _).mono ?_; rintro e w7 ⟨rfl, hb7⟩; have HB7 := Lib.hid hb7; clear hb7)
           refine genA (w0 := w5) w5.heap.size 110 [.int .i64 b0, .int .i64 b1] (HRb2.out.old HB7.out) (HB2.out.trans (HB7.out.mono HB2.out.size)) ?_
           intro w8 r8 b8
           have R8 := Lib.hid r8; have B8 := Lib.hid b8
           have q0 := r8.cell 0; have q1 := r8.cell 1
           simp only [List.getElem?_cons_succ, List.getElem?_cons_zero] at q0 q1
           clear r8 b8 p0 p1 r0 r1
           by_cases hd0 : b0 = 0
           · have hd1 : (b0 == 0) = true := by simpa using hd0
             have hdd1 : (b1 == 0) = false := hz1
             have HFIN : Hid (alignL X Y reach least = (b0, b1, b2)) := by unfold Hid; rw [Hst.out]; simp [hd0]
             clear hd0
             go_wp2
             have HR8 := Lib.hid (HR5.out.old B8.out)
             have z0 := HR8.out.cell 0; have z1 := HR8.out.cell 1
             simp only [List.getElem?_cons_succ, List.getElem?_cons_zero] at z0 z1
             have f0 := HR8.out.free 0; have f1 := HR8.out.free 1
             have n1 : ¬ w.heap.size = w5.heap.size := by have := HR5.out.lt; omega
             have n2 : ¬ w5.heap.size = w.heap.size := fun h => n1 h.symm
             have HS0 : Hid (w8.cell? ⟨w5.heap.size, 0, none⟩ = some (.int .i64 b0) ∧ w8.cell? ⟨w5.heap.size, 1, none⟩ = some (.int .i64 b1)) := ⟨by rw [R8.out.cell]; rfl, by rw [R8.out.cell]; rfl⟩
             have hK : ∀ (V : World) o v, (V.cell? ⟨w5.heap.size, 0, none⟩ = some (.int .i64 b0) ∧ V.cell? ⟨w5.heap.size, 1, none⟩ = some (.int .i64 b1)) → ((V.setCell ⟨w.heap.size, o, none⟩ v).cell? ⟨w5.heap.size, 0, none⟩ = some (.int .i64 b0) ∧ (V.setCell ⟨w.heap.size, o, none⟩ v).cell? ⟨w5.heap.size, 1, none⟩ = some (.int .i64 b1)) := fun V o v h => ⟨(World.cell?_setCell_far V _ _ v n1).trans h.1, (World.cell?_setCell_far V _ _ v n1).trans h.2⟩
             have HK := Lib.hid hK
             clear hK
             go_region_held3 (fun w' => w'.cell? ⟨w5.heap.size, 0, none⟩ = some (.int .i64 b0) ∧ w'.cell? ⟨w5.heap.size, 1, none⟩ = some (.int .i64 b1)) (first | assumption | exact HS0.out | exact HK.out _ _ _ (HK.out _ _ _ (by assumption)) | exact HK.out _ _ _ (HK.out _ _ _ HS0.out)) (fail)
             all_goals go_wp2
             try rw [Exit.noGoto_ret]
             have hrow : Row ((w8.setCell ⟨w.heap.size, 0, none⟩ (.int .i64 b0)).setCell ⟨w.heap.size, 1, none⟩ (.int .i64 b1)).drew w.heap.size 110 [.int .i64 b0, .int .i64 b1] := (HR8.out.set 0 _).set 1 _
             have hbw : Below w.heap.size w w8 := HB5.out.trans (B8.out.mono HB5.out.size)
             refine bodyPost_ret (results_tct rfl _ _ w.heap.size 110 #[.int .i64 b0, .int .i64 b1] (0, 0) _ rfl hrow Tryz.underlying110 rfl (by kernel_rfl)) rfl ⟨?_, ((hbw.setCell (Nat.le_refl _) _).setCell (Nat.le_refl _) _).drew⟩
             rw [HAL.out, HFIN.out, alRes, if_neg (show ¬ (b0, b1, b2).2.1 = 0 from by simpa using hdd1)]
             exact rfl
           · have hd1 : (b0 == 0) = false := by simpa using hd0
             have Hst2 : Hid (alGo X Y least k (s + 1) (b0, b1, b2) = alignL X Y reach least) := by unfold Hid; rw [Hst.out]; simp [hd0]
             clear hd0
             go_wp2
             go_roundg k
             case measure => omega
             case rel => exact ⟨s + 1, b0, b1, b2, by go_num, rfl, by omega, by omega, HK1.out, Hst2.out, Hb.out, R8, B8⟩
         · go_upto_region 14 with (first
            | (go_at_call 101; refine (HLS.out _).mono ?_; rintro e w7 ⟨rfl, hb7⟩; have HB7 := Lib.hid hb7; have HRb7 := Lib.hid (HRb2.out.old hb7); have HRg7 := Lib.hid (HRg.out.old hb7); have r0 := HRg7.out.cell 0; have r1 := HRg7.out.cell 1; simp only [List.getElem?_cons_succ, List.getElem?_cons_zero] at r0 r1; clear hb7)
            | (refine wpList_store_row rfl 110 _ _ rfl w5.heap.size #[.int .i64 dn, .int .i64 dd] rfl rfl 110 _ HRb7.out ?_ ?_ ?_ ?_; (kernel_rfl); (rfl); (simp [Value.oneCell'])))
           refine genA (w0 := w5) w5.heap.size 110 [.int .i64 dn, .int .i64 dd] (HRb7.out.setRow _) (Below.setRow (HB2.out.trans (HB7.out.mono HB2.out.size)) (Nat.le_refl _) _) ?_
           intro w8 r8 b8
           have R8 := Lib.hid r8; have B8 := Lib.hid b8
           have q0 := r8.cell 0; have q1 := r8.cell 1
           simp only [List.getElem?_cons_succ, List.getElem?_cons_zero] at q0 q1
           clear r8 b8 p0 p1
           by_cases hd0 : dn = 0
           · have hd1 : (dn == 0) = true := by simpa using hd0
             have hdd1 : (dd == 0) = false := by have := Hdb.out; simp; omega
             have HFIN : Hid (alignL X Y reach least = (dn, dd, s)) := by unfold Hid; rw [Hst.out]; simp [hd0]
             clear hd0
             go_wp2
             have HR8 := Lib.hid (HR5.out.old B8.out)
             have z0 := HR8.out.cell 0; have z1 := HR8.out.cell 1
             simp only [List.getElem?_cons_succ, List.getElem?_cons_zero] at z0 z1
             have f0 := HR8.out.free 0; have f1 := HR8.out.free 1
             have n1 : ¬ w.heap.size = w5.heap.size := by have := HR5.out.lt; omega
             have n2 : ¬ w5.heap.size = w.heap.size := fun h => n1 h.symm
             have HS0 : Hid (w8.cell? ⟨w5.heap.size, 0, none⟩ = some (.int .i64 dn) ∧ w8.cell? ⟨w5.heap.size, 1, none⟩ = some (.int .i64 dd)) := ⟨by rw [R8.out.cell]; rfl, by rw [R8.out.cell]; rfl⟩
             have hK : ∀ (V : World) o v, (V.cell? ⟨w5.heap.size, 0, none⟩ = some (.int .i64 dn) ∧ V.cell? ⟨w5.heap.size, 1, none⟩ = some (.int .i64 dd)) → ((V.setCell ⟨w.heap.size, o, none⟩ v).cell? ⟨w5.heap.size, 0, none⟩ = some (.int .i64 dn) ∧ (V.setCell ⟨w.heap.size, o, none⟩ v).cell? ⟨w5.heap.size, 1, none⟩ = some (.int .i64 dd)) := fun V o v h => ⟨(World.cell?_setCell_far V _ _ v n1).trans h.1, (World.cell?_setCell_far V _ _ v n1).trans h.2⟩
             have HK := Lib.hid hK
             clear hK
             go_region_held3 (fun w' => w'.cell? ⟨w5.heap.size, 0, none⟩ = some (.int .i64 dn) ∧ w'.cell? ⟨w5.heap.size, 1, none⟩ = some (.int .i64 dd)) (first | assumption | exact HS0.out | exact HK.out _ _ _ (HK.out _ _ _ (by assumption)) | exact HK.out _ _ _ (HK.out _ _ _ HS0.out)) (fail)
             all_goals go_wp2
             try rw [Exit.noGoto_ret]
             have hrow : Row ((w8.setCell ⟨w.heap.size, 0, none⟩ (.int .i64 dn)).setCell ⟨w.heap.size, 1, none⟩ (.int .i64 dd)).drew w.heap.size 110 [.int .i64 dn, .int .i64 dd] := (HR8.out.set 0 _).set 1 _
             have hbw : Below w.heap.size w w8 := HB5.out.trans (B8.out.mono HB5.out.size)
             refine bodyPost_ret (results_tct rfl _ _ w.heap.size 110 #[.int .i64 dn, .int .i64 dd] (0, 0) _ rfl hrow Tryz.underlying110 rfl (by kernel_rfl)) rfl ⟨?_, ((hbw.setCell (Nat.le_refl _) _).setCell (Nat.le_refl _) _).drew⟩
             rw [HAL.out, HFIN.out, alRes, if_neg (show ¬ (dn, dd, s).2.1 = 0 from by simpa using hdd1)]
             exact rfl
           · have hd1 : (dn == 0) = false := by simpa using hd0
             have Hst2 : Hid (alGo X Y least k (s + 1) (dn, dd, s) = alignL X Y reach least) := by unfold Hid; rw [Hst.out]; simp [hd0]
             clear hd0
             go_wp2
             go_roundg k
             case measure => omega
             case rel => exact ⟨s + 1, dn, dd, s, by go_num, rfl, by omega, by omega, HK1.out, Hst2.out, by have := Hdb.out; show _ ∧ _ ∧ _ ∧ _; omega, R8, B8⟩
    · have HG2 : Hid (alGo X Y least k (s + 1) (b0, b1, b2) = alignL X Y reach least) := by
       unfold Hid; rw [← HG.out, alGo_short _ _ _ _ _ _ (by rw [HF.out, ← HTT.out]; exact of_decide_eq_true hlt2)]
      go_wp2
      go_roundg k
      case measure => omega
      case rel => exact ⟨s + 1, b0, b1, b2, by go_num, rfl, by omega, by omega, HK1.out, HG2.out, Hb, HRb, HBw⟩
  · have hg0 : gk = 0 := by omega
    have HFIN : Hid (alignL X Y reach least = (b0, b1, b2)) := by unfold Hid; rw [← HG.out, hg0]; rfl
    clear hg hg0
    have R8 := HRb; have B8 := HBw
    have q0 := R8.out.cell 0; have q1 := R8.out.cell 1
    simp only [List.getElem?_cons_succ, List.getElem?_cons_zero] at q0 q1
    by_cases hz : b1 = 0
    · subst hz
      have HR8 := Lib.hid (HR5.out.old B8.out)
      have z0 := HR8.out.cell 0; have z1 := HR8.out.cell 1
      simp only [List.getElem?_cons_succ, List.getElem?_cons_zero] at z0 z1
      have f0 := HR8.out.free 0; have f1 := HR8.out.free 1
      have hbw : Hid (Below w.heap.size w wr) := HB5.out.trans (B8.out.mono HB5.out.size)
      go_wp2
      try rw [Exit.noGoto_ret]
      have hrow : Row ((wr.setCell ⟨w.heap.size, 0, none⟩ (.int .i64 0)).setCell ⟨w.heap.size, 1, none⟩ (.int .i64 0)) w.heap.size 110 [.int .i64 0, .int .i64 0] := (HR8.out.set 0 _).set 1 _
      refine bodyPost_ret (results_tct rfl _ _ w.heap.size 110 #[.int .i64 0, .int .i64 0] (0, 0) _ rfl hrow Tryz.underlying110 rfl (by kernel_rfl)) rfl ⟨?_, ((hbw.out.setCell (Nat.le_refl _) _).setCell (Nat.le_refl _) _)⟩
      rw [HAL.out, HFIN.out, alRes, if_pos rfl]
      exact rfl
    · have hdd1 : (b1 == 0) = false := by simpa using hz
      clear hz
      go_wp2
      have HR8 := Lib.hid (HR5.out.old HBw.out)
      have z0 := HR8.out.cell 0; have z1 := HR8.out.cell 1
      simp only [List.getElem?_cons_succ, List.getElem?_cons_zero] at z0 z1
      have f0 := HR8.out.free 0; have f1 := HR8.out.free 1
      have n1 : ¬ w.heap.size = w5.heap.size := by have := HR5.out.lt; omega
      have n2 : ¬ w5.heap.size = w.heap.size := fun h => n1 h.symm
      have HS0 : Hid (wr.cell? ⟨w5.heap.size, 0, none⟩ = some (.int .i64 b0) ∧ wr.cell? ⟨w5.heap.size, 1, none⟩ = some (.int .i64 b1)) := ⟨by rw [HRb.out.cell]; rfl, by rw [HRb.out.cell]; rfl⟩
      have hK : ∀ (V : World) o v, (V.cell? ⟨w5.heap.size, 0, none⟩ = some (.int .i64 b0) ∧ V.cell? ⟨w5.heap.size, 1, none⟩ = some (.int .i64 b1)) → ((V.setCell ⟨w.heap.size, o, none⟩ v).cell? ⟨w5.heap.size, 0, none⟩ = some (.int .i64 b0) ∧ (V.setCell ⟨w.heap.size, o, none⟩ v).cell? ⟨w5.heap.size, 1, none⟩ = some (.int .i64 b1)) := fun V o v h => ⟨(World.cell?_setCell_far V _ _ v n1).trans h.1, (World.cell?_setCell_far V _ _ v n1).trans h.2⟩
      have HK := Lib.hid hK
      clear hK
      go_region_held3 (fun w' => w'.cell? ⟨w5.heap.size, 0, none⟩ = some (.int .i64 b0) ∧ w'.cell? ⟨w5.heap.size, 1, none⟩ = some (.int .i64 b1)) (first | assumption | exact HS0.out | exact HK.out _ _ _ (HK.out _ _ _ (by assumption)) | exact HK.out _ _ _ (HK.out _ _ _ HS0.out)) (fail)
      all_goals go_wp2
      try rw [Exit.noGoto_ret]
      have hrow : Row ((wr.setCell ⟨w.heap.size, 0, none⟩ (.int .i64 b0)).setCell ⟨w.heap.size, 1, none⟩ (.int .i64 b1)).drew w.heap.size 110 [.int .i64 b0, .int .i64 b1] := (HR8.out.set 0 _).set 1 _
      have hbw : Below w.heap.size w wr := HB5.out.trans (HBw.out.mono HB5.out.size)
      refine bodyPost_ret (results_tct rfl _ _ w.heap.size 110 #[.int .i64 b0, .int .i64 b1] (0, 0) _ rfl hrow Tryz.underlying110 rfl (by kernel_rfl)) rfl ⟨?_, ((hbw.setCell (Nat.le_refl _) _).setCell (Nat.le_refl _) _).drew⟩
      rw [HAL.out, HFIN.out, alRes, if_neg (show ¬ (b0, b1, b2).2.1 = 0 from by simpa using hdd1)]
      exact rfl
end Go.Proofs.YtjdniebjhilooaaGreatDoor
namespace Go.Proofs.YtjdniebjhilooaaGreatDoor
set_option linter.all false
open Go.RowKit Go.Maps Go.Fl
abbrev HeS := List ByteArray × ByteArray × ByteArray
def onS (s : HeS) (n d : Int) : HeS := (s.1, s.2.1, s.2.2 ++ if n < 2 * d then ⟨#[48]⟩ else ⟨#[49]⟩)
def endS (s : HeS) : HeS := (addW s.1 (lettI s.2.1 s.2.2), ⟨#[]⟩, ⟨#[]⟩)
def offS (s : HeS) (n d : Int) : HeS := if 5 * d ≤ n then endS s else if 2 * d ≤ n then (s.1, lettI s.2.1 s.2.2, ⟨#[]⟩) else s
def HeT (w0 : World) (g b : Nat) (s : HeS) (W : World) : Prop := HeI w0 g b s.1 s.2.1 s.2.2 W
def smallS (s : HeS) (k : Nat) : Prop := s.1.length ≤ k ∧ s.2.1.size ≤ k ∧ s.2.2.size ≤ k
theorem addW_len (l : List ByteArray) (wd : ByteArray) : (addW l wd).length ≤ l.length + 1 := by unfold addW; split <;> simp
theorem onS_small {s : HeS} {k : Nat} (h : smallS s k) (n d : Int) : smallS (onS s n d) (k + 1) := by
 obtain ⟨h1, h2, h3⟩ := h
 refine ⟨Nat.le_succ_of_le h1, Nat.le_succ_of_le h2, ?_⟩
 show (s.2.2 ++ _).size ≤ _
 rw [ByteArray.size_append]
 have : (if n < 2 * d then (⟨#[48]⟩ : ByteArray) else ⟨#[49]⟩).size = 1 := by split <;> rfl
 omega
theorem offS_small {w0 W : World} {g b : Nat} {s : HeS} {k : Nat} (hI : HeT w0 g b s W) (h : smallS s k) (hk : k ≤ 100000) (n d : Int) : smallS (offS s n d) (k + 1) := by
 obtain ⟨h1, h2, h3⟩ := h
 have hl := lettI_size hI (by omega)
 unfold offS
 split
 · refine ⟨?_, Nat.zero_le _, Nat.zero_le _⟩
   have := addW_len s.1 (lettI s.2.1 s.2.2)
   show (addW _ _).length ≤ _
   omega
 · split
   · exact ⟨Nat.le_succ_of_le h1, by show (lettI _ _).size ≤ _; omega, Nat.zero_le _⟩
   · exact ⟨Nat.le_succ_of_le h1, Nat.le_succ_of_le h2, Nat.le_succ_of_le h3⟩
theorem onT_any (w0 : World) (g b : Nat) (s : HeS) (k : Nat) (n d : Int) (w : World) (hI : HeT w0 g b s w) (hs : smallS s k) (hk : k ≤ 100000) (hn : 0 ≤ n ∧ n ≤ 100000) (hd : 0 ≤ d ∧ d ≤ 100) :
 Calls Tryz.prog 91 #[.pointer (some ⟨g, 0, none⟩), .int .i64 n, .int .i64 d] w fun e w' => e = .returned (.tuple #[]) ∧ HeT w0 g b (onS s n d) w' :=
 on_any w0 g b s.1 s.2.1 s.2.2 n d w hI hn hd (Nat.le_trans hs.2.2 hk)
set_option maxRecDepth 100000 in
set_option maxHeartbeats 400000 in
theorem offT_any (w0 : World) (g b : Nat) (s : HeS) (k : Nat) (n d : Int) (w : World) (hI : HeT w0 g b s w) (hs : smallS s k) (hk : k ≤ 100000) (hn : 0 ≤ n ∧ n ≤ 100000) (hd : 0 ≤ d ∧ d ≤ 100) :
 Calls Tryz.prog 92 #[.pointer (some ⟨g, 0, none⟩), .int .i64 n, .int .i64 d] w fun e w' => e = .returned (.tuple #[]) ∧ HeT w0 g b (offS s n d) w' := by
 have HW := Lib.hid (endWord_any w0 g b s.1 s.2.1 s.2.2 w hI (Nat.le_trans hs.2.2 hk) (Nat.le_trans hs.2.1 hk) (Nat.le_trans hs.1 hk))
 have HL := Lib.hid (endLetter_any w0 g b s.1 s.2.1 s.2.2 w hI (Nat.le_trans hs.2.2 hk) (Nat.le_trans hs.2.1 hk))
 have HI := Lib.hid hI
 clear hI hs
 by_cases h5 : 5 * d ≤ n
 · have HO : Hid (offS s n d = endS s) := by unfold Hid offS; rw [if_pos h5]
   go_enter Tryz.func92, Tryz.ntmps92
   go_wp2_with fail
   refine HW.out.mono ?_
   rintro e w1 ⟨rfl, h1⟩
   go_wp2
   go_end0
   exact ⟨rfl, by rw [HO.out]; exact h1⟩
 · by_cases h2 : 2 * d ≤ n
   · have HO : Hid (offS s n d = (s.1, lettI s.2.1 s.2.2, ⟨#[]⟩)) := by unfold Hid offS; rw [if_neg h5, if_pos h2]
     go_enter Tryz.func92, Tryz.ntmps92
     go_wp2_with fail
     refine HL.out.mono ?_
     rintro e w1 ⟨rfl, h1⟩
     go_wp2
     go_end0
     exact ⟨rfl, by rw [HO.out]; exact h1⟩
   · have HO : Hid (offS s n d = s) := by unfold Hid offS; rw [if_neg h5, if_neg h2]
     go_enter Tryz.func92, Tryz.ntmps92
     go_wp2
     go_end0
     exact ⟨rfl, by rw [HO.out]; exact HI.out⟩
def hearGo (xs : List Nat) (d : Int) : Nat → Nat → HeS → HeS
 | 0, _, s => s
 | f + 1, i, s => if i < xs.length then hearGo xs d f (spanEndL xs i) (if onB (xs.getD i 0) then onS s ((spanEndL xs i : Int) - i) d else offS s ((spanEndL xs i : Int) - i) d) else s
def heardL (xs : List Nat) (d : Int) : List ByteArray := (endS (hearGo xs d xs.length 0 ([], ⟨#[]⟩, ⟨#[]⟩))).1
theorem spanEndL_bd {xs : List Nat} {i : Nat} (h : i < xs.length) : i < spanEndL xs i ∧ spanEndL xs i ≤ xs.length := by
 have := runL_le (onB (xs.getD i 0)) (xs.drop (i + 1))
 rw [List.length_drop] at this
 unfold spanEndL; omega
theorem HeT.drewN {w0 W : World} {g b : Nat} {s : HeS} (h : HeT w0 g b s W) (q : Nat) : HeT w0 g b s (W.drewN q) := by
 obtain ⟨h0, v, h1, h2, h3, h4⟩ := h
 exact ⟨h0, v, h1, h2, h3, below_drewN h4 q⟩
theorem HeT.below {w0 W : World} {g b : Nat} {s : HeS} (h : HeT w0 g b s W) : Below w0.heap.size w0 W := by
 obtain ⟨_, v, _, _, _, h4⟩ := h; exact h4
def HeardR (w0 : World) (l : List ByteArray) (e : Ending) (w' : World) : Prop := ∃ v, (if 64 < l.length then e = .returned (.tuple #[.slice none 0 0, .int .i64 5]) else e = .returned (.tuple #[v, .int .i64 0]) ∧ w'.ownsRow w0.heap.size 9 1 v l.length (strs l)) ∧ Below w0.heap.size w0 w'
theorem heI_gen {p : World → Prop} {w0 W : World} {g b : Nat} {s : HeS} (h : HeT w0 g b s W) (k : ∀ W, HeT w0 g b s W → p W) : p W := k W h
set_option maxRecDepth 100000 in
set_option maxHeartbeats 1000000 in
theorem heard_ok (A : Option Addr) (n c : Nat) (xs : List Nat) (d : Int) (w : World) (hA : Rd w A (flts xs)) (hn : n = xs.length) (hm : xs.length ≤ 4096) (h0 : sampsI xs = 0) (hd : 1 ≤ d ∧ d ≤ 16) (hT : Tz w) :
 Calls Tryz.prog 26 #[.slice A n c, .int .i64 d] w fun e w' => HeardR w (heardL xs d) e w' := by
 subst hn
 have HC : Hid (Calls Tryz.prog 87 #[.slice A xs.length c] w fun e w' => e = .returned (.int .i64 0) ∧ Below w.heap.size w w') := by unfold Hid; rw [← h0]; exact checkSamples_any A _ c xs w hA rfl
 have HZ : Hid (whenI (rangeB d 1 16) 3 = 0) := by unfold Hid whenI rangeB; simp; omega
 have HA := Lib.hid hA; have HT := Lib.hid hT
 clear hA hT h0
 go_enter Tryz.func26, Tryz.ntmps26
 go_wp2_with (first
  | (go_at_call 87; refine HC.out.mono ?_; rintro e w1 ⟨rfl, hb1⟩; have HB1 := Lib.hid hb1; clear hb1)
  | (go_at_call 78; refine (between_any _ _ _ _).mono ?_; rintro e w3 ⟨rfl, rfl⟩; rw [HZ.out])
  | (go_at_call 76; refine (firstV_any _ _ _ [0, 0] _ (Rd.new _ _ _ _ rfl) rfl (by simp)).mono ?_; rintro e w3 ⟨rfl, rfl⟩)
  | (go_at_call 88; refine (letters_any _ (HT.out.old (HB1.out.alloc HB1.out.size _))).mono ?_; rintro e w4 ⟨b, rfl, hm4, hb4, hw4⟩; have HM4 := Lib.hid hm4; have HB4 := Lib.hid ((HB1.out.alloc HB1.out.size _).trans (hw4.mono (by have := HB1.out.size; simp; omega))); clear hm4 hw4 hb4))
 have HI0 : Hid (HeT w w4.heap.size b ([], ⟨#[]⟩, ⟨#[]⟩) (w4.alloc (.cells #[.map (some b), .slice none 0 0, .string ⟨#[]⟩, .string ⟨#[]⟩] 175))) :=
  ⟨HB4.out.size, .slice none 0 0, Row.new w4 _ (heB b (.slice none 0 0) ⟨#[]⟩ ⟨#[]⟩), HM4.out.alloc _, World.ownsRow_nil _ _ _ _, HB4.out.alloc HB4.out.size _⟩
 refine heI_gen HI0.out ?_
 clear HI0 HM4 HC HT
 intro w5 hi5
 have HI5 := Lib.hid hi5
 clear hi5
 go_loopg [8] xs.length (fun g i wr => ∃ (k : Nat) (s : HeS), k ≤ xs.length ∧ i = .int .i64 k ∧ Hid (hearGo xs d g k s = hearGo xs d xs.length 0 ([], ⟨#[]⟩, ⟨#[]⟩)) ∧ Hid (smallS s k) ∧ Hid (HeT w w4.heap.size b s wr) ∧ Hid (xs.length ≤ k + g))
 case atStart => exact ⟨0, _, Nat.zero_le _, rfl, rfl, ⟨Nat.le_refl _, Nat.le_refl _, Nat.le_refl _⟩, HI5, by show _ ≤ _; omega⟩
 case round =>
  obtain ⟨k, s, hk, rfl, Hg, Hs, HI, Hf⟩ := hrel
  by_cases hlt : k < xs.length
  · obtain ⟨f, rfl⟩ : ∃ f, gk = f + 1 := ⟨gk - 1, by have := Hf.out; omega⟩
    obtain ⟨bb, off, hAb, hc⟩ := Rd.flt (HA.out.below HI.out.below) hlt
    subst hAb
    have hsp := spanEndL_bd hlt
    have HSP : Hid (∀ W, Below w.heap.size w W → Calls Tryz.prog 89 #[.slice (some ⟨bb, off, none⟩) xs.length c, .int .i64 k] W fun e w' => e = .returned (.int .i64 (spanEndL xs k : Nat)) ∧ ∃ q, w' = W.drewN q) := fun W hW => spanEnd_any _ _ c xs k W (HA.out.below hW) rfl hlt (by omega)
    have hstep : hearGo xs d (f + 1) k s = hearGo xs d f (spanEndL xs k) (if onB (xs.getD k 0) then onS s ((spanEndL xs k : Int) - k) d else offS s ((spanEndL xs k : Int) - k) d) := by rw [hearGo, if_pos hlt]
    rw [Hg.out, show xs.getD k 0 = xs[k] by simp [hlt]] at hstep
    obtain ⟨tq, hto⟩ : ∃ tq, tq = spanEndL xs k := ⟨_, rfl⟩
    rw [← hto] at hsp HSP hstep
    obtain ⟨x, hx⟩ : ∃ x, x = xs[k] := ⟨_, rfl⟩
    rw [← hx] at hc hstep
    have e1 : IntKind.i64.wrap ((tq : Int) - (k : Int)) = (tq : Int) - (k : Int) := IntWalk.i64_in _ (by omega)
    have Hstep := Lib.hid hstep
    clear hstep hto hx
    cases hon : onB x
    · have HON := Lib.hid hon
      clear hon
      go_wp2_with (first
       | (go_at_call 89; refine (HSP.out _ HI.out.below).mono ?_; rintro e w6 ⟨rfl, q, rfl⟩; have HI6 := Lib.hid (HI.out.drewN q))
       | (go_at_call 90; refine (isOn_any _ _).mono ?_; rintro e w7 ⟨rfl, rfl⟩; rw [HON.out])
       | (go_at_call 92; refine (offT_any w w4.heap.size b s k _ d _ HI6.out Hs.out (by omega) (by omega) (by omega)).mono ?_; rintro e w8 ⟨rfl, hi8⟩; have HI8 := Lib.hid hi8; clear hi8))
      go_roundg f
      case measure => omega
      case rel =>
       refine ⟨tq, offS s ((tq : Int) - k) d, by omega, rfl, by show _ = _; rw [Hstep.out, HON.out]; rfl, ?_, HI8, by have := Hf.out; show _ ≤ _; omega⟩
       have h := offS_small HI.out Hs.out (by omega) ((tq : Int) - k) d
       exact ⟨Nat.le_trans h.1 (by omega), Nat.le_trans h.2.1 (by omega), Nat.le_trans h.2.2 (by omega)⟩
    · have HON := Lib.hid hon
      clear hon
      go_wp2_with (first
       | (go_at_call 89; refine (HSP.out _ HI.out.below).mono ?_; rintro e w6 ⟨rfl, q, rfl⟩; have HI6 := Lib.hid (HI.out.drewN q))
       | (go_at_call 90; refine (isOn_any _ _).mono ?_; rintro e w7 ⟨rfl, rfl⟩; rw [HON.out])
       | (go_at_call 91; refine (onT_any w w4.heap.size b s k _ d _ HI6.out Hs.out (by omega) (by omega) (by omega)).mono ?_; rintro e w8 ⟨rfl, hi8⟩; have HI8 := Lib.hid hi8; clear hi8))
      go_roundg f
      case measure => omega
      case rel =>
       refine ⟨tq, onS s ((tq : Int) - k) d, by omega, rfl, by show _ = _; rw [Hstep.out, HON.out]; rfl, ?_, HI8, by have := Hf.out; show _ ≤ _; omega⟩
       have h := onS_small Hs.out ((tq : Int) - k) d
       exact ⟨Nat.le_trans h.1 (by omega), Nat.le_trans h.2.1 (by omega), Nat.le_trans h.2.2 (by omega)⟩
  · have hend : hearGo xs d gk k s = s := by
     cases gk with
     | zero => rfl
     | succ f => rw [hearGo, if_neg hlt]
    have HL : Hid (heardL xs d = addW s.1 (lettI s.2.1 s.2.2)) := by unfold Hid heardL; rw [← Hg.out, hend]; rfl
    have HEW := Lib.hid (endWord_any w w4.heap.size b s.1 s.2.1 s.2.2 wr HI.out (by have := Hs.out.2.2; omega) (by have := Hs.out.2.1; omega) (by have := Hs.out.1; omega))
    obtain ⟨l, hl⟩ : ∃ l, l = addW s.1 (lettI s.2.1 s.2.2) := ⟨_, rfl⟩
    rw [← hl] at HL HEW
    clear hend hl
    by_cases h64 : 64 < l.length
    · go_wp2_with fail
      refine HEW.out.mono ?_
      rintro e w6 ⟨rfl, hg6, v, m1, m2, m3, m4⟩
      obtain ⟨Av, cv, rfl, _⟩ := owned_slice m3
      have c1 : w6.cell? ⟨w4.heap.size, 1, none⟩ = some (.slice Av l.length cv) := by rw [m1.cell]; rfl
      have M4 := Lib.hid m4
      clear m1 m2 m3 m4
      go_wp2
      go_ret2
      exact ⟨.slice none 0 0, by rw [HL.out, if_pos h64]; exact rfl, M4.out⟩
    · go_wp2_with fail
      refine HEW.out.mono ?_
      rintro e w6 ⟨rfl, hg6, v, m1, m2, m3, m4⟩
      obtain ⟨Av, cv, rfl, _⟩ := owned_slice m3
      have c1 : w6.cell? ⟨w4.heap.size, 1, none⟩ = some (.slice Av l.length cv) := by rw [m1.cell]; rfl
      have M4 := Lib.hid m4; have M3 := Lib.hid m3
      clear m1 m2 m3 m4
      go_wp2
      go_ret2
      exact ⟨.slice Av l.length cv, by rw [HL.out, if_neg h64]; exact ⟨rfl, M3.out⟩, M4.out⟩
end Go.Proofs.YtjdniebjhilooaaGreatDoor
namespace Go.Proofs.YtjdniebjhilooaaGreatDoor
set_option linter.all false
open Go.RowKit Go.Fl
def pieceK (d i : Nat) (c : UInt8) : List Nat := (if i = 0 then [] else List.replicate d 0) ++ List.replicate (if c.toNat = 49 then 3 * d else d) one32
def letP (d : Nat) (l : List UInt8) : Nat → List Nat
 | 0 => []
 | p + 1 => letP d l p ++ pieceK d p (l.getD p 0)
def letS (d : Nat) (l : List UInt8) : List Nat := letP d l l.length
theorem pieceK_le (d i : Nat) (c : UInt8) : (pieceK d i c).length ≤ 4 * d := by
 unfold pieceK; split <;> split <;> simp <;> omega
theorem letP_le (d : Nat) (l : List UInt8) (p : Nat) : (letP d l p).length ≤ p * (4 * d) := by
 induction p with
 | zero => simp [letP]
 | succ p ih =>
   rw [letP, List.length_append, Nat.succ_mul]
   have := pieceK_le d p (l.getD p 0)
   omega
theorem Step.ne {w w1 : World} {v v1 : Value} (h : Step w w1 v v1) {k : Nat} (hv : v.ownBlock ≠ some k) (hk : k < w.heap.size) : v1.ownBlock ≠ some k := by
 rcases h.2 with h2 | ⟨m, hm, hle⟩
 · rw [h2]; exact hv
 · rw [hm]; intro hh; cases hh; omega
set_option maxRecDepth 100000 in
set_option maxHeartbeats 2000000 in
theorem letterKeyed_any (B : Nat) (v : Value) (xs : List Nat) (s : ByteArray) (d : Nat) (w : World) (hown : w.ownsRow B 56 1 v xs.length (flts xs)) (hB : B ≤ w.heap.size) (hd : d ≤ 16) (hs : s.size ≤ 100) (hx : xs.length ≤ 100000) (hasc : ∀ i (h : i < s.size), (s[i]'h).toNat < 128) :
 Calls Tryz.prog 85 #[v, .string s, .int .i64 d] w fun e w' => ∃ v', e = .returned v' ∧ w'.ownsRow B 56 1 v' (xs ++ letS d s.data.toList).length (flts (xs ++ letS d s.data.toList)) ∧ Step w w' v v' := by
 have Hown := Lib.hid hown
 have Hasc := Lib.hid hasc
 clear hown hasc
 go_enter Tryz.func85, Tryz.ntmps85
 go_wp2
 have S0 : Hid (v.ownBlock ≠ some w.heap.size) := fun h => by have := (Hown.out.lt _ h).2; omega
 go_loopg [0] s.size (fun g u wr => ∃ p : Nat, p ≤ s.size ∧ g = s.size - p ∧ Hid (wr.heap[w.heap.size]? = some (.stringIter s p)) ∧ Hid (wr.ownsRow B 56 1 u (xs ++ letP d s.data.toList p).length (flts (xs ++ letP d s.data.toList p))) ∧ Hid (Step w wr v u) ∧ Hid (u.ownBlock ≠ some w.heap.size))
 case atStart => exact ⟨0, Nat.zero_le _, rfl, World.iter_heap w s 0, by have h := Hown.out.alloc (.stringIter s 0); show World.ownsRow _ _ _ _ _ _ _; simpa [letP, World.iter] using h, (Step.refl w v).alloc _, S0⟩
 case round =>
  obtain ⟨p, hp, hg, Hit, Ho, Hst, Hne⟩ := hrel
  subst hg
  by_cases hlt : p < s.size
  · have hnx := fun ty => Lib.run_next_ascii_at (P := Tryz.prog) wr w.heap.size s p ty Hit.out hlt (Hasc.out p hlt)
    have Hit1 := Lib.hid (Lib.iterAt_heap wr w.heap.size s p (p + 1) Hit.out)
    have Ho1 := Lib.hid (owns_iter Ho.out Hne.out s (p + 1))
    have Hst1 := Lib.hid (Hst.out.iter (Nat.le_refl _) s (p + 1))
    have hsz1 : w.heap.size + 1 ≤ (wr.iterAt w.heap.size s (p + 1)).heap.size := (Array.getElem?_eq_some_iff.1 Hit1.out).1
    have Hsz1 := Lib.hid hsz1
    obtain ⟨W, hW⟩ : ∃ W, W = wr.iterAt w.heap.size s (p + 1) := ⟨_, rfl⟩
    rw [← hW] at hnx Hit1 Ho1 Hst1 Hsz1
    have hget : s.data.toList.getD p 0 = s[p] := by rw [List.getD_eq_getElem?_getD, List.getElem?_eq_getElem (by simpa using hlt)]; rfl
    have hstep : letP d s.data.toList (p + 1) = letP d s.data.toList p ++ pieceK d p s[p] := by rw [letP, hget]
    have Hstep := Lib.hid hstep
    have hle := letP_le d s.data.toList p
    have hlen : (xs ++ letP d s.data.toList p).length ≤ 200000 := by
     rw [List.length_append]
     have : p * (4 * d) ≤ 100 * 64 := Nat.mul_le_mul (by omega) (by omega)
     omega
    have Hlen := Lib.hid hlen
    obtain ⟨ys, hys⟩ : ∃ ys, ys = xs ++ letP d s.data.toList p := ⟨_, rfl⟩
    rw [← hys] at Ho1 Hlen
    have Hys := Lib.hid hys
    obtain ⟨r, hr⟩ : ∃ r, r = s[p].toNat := ⟨_, rfl⟩
    have hpk : pieceK d p s[p] = (if p = 0 then [] else List.replicate d 0) ++ List.replicate (if r = 49 then 3 * d else d) one32 := by unfold pieceK; rw [hr]
    rw [← hr] at hnx
    have Hpk := Lib.hid hpk
    have HB0 : Hid (B ≤ w.heap.size) := hB
    clear hsz1 hW hget hstep hle hlen hys hr hpk hB
    have hBW : B ≤ W.heap.size := by have := Hsz1.out; have := HB0.out; omega
    have HBW := Lib.hid hBW
    clear hBW
    have h3 : ((3 : Int) * (d : Int)).toNat = 3 * d := by omega
    have H3 := Lib.hid h3
    clear h3
    by_cases h49 : r = 49
    · have h49b : ((r : Int) == 49) = true := by simp; omega
      have H49 : Hid ((r = 49) = True) := by unfold Hid; simp [h49]
      clear h49
      by_cases hp0 : p = 0
      · have HP : Hid ((p = 0) = True) := by unfold Hid; simp [hp0]
        have hp0b : decide (0 < p) = false := by simp; omega
        clear hp0
        go_wp2_with fail
        refine (held_step B u0 ys one32 (3 * (d : Int)) _ Ho1.out HBW.out (by omega) (by have := Hlen.out; omega)).mono ?_
        rintro e w2 ⟨v2, rfl, ho2, hst2⟩
        simp only [H3.out] at ho2
        have Hit2 := Lib.hid (hst2.heap Hit1.out (Ne.symm Hne.out))
        have Hne2 := Lib.hid (hst2.ne Hne.out (by have := Hsz1.out; omega))
        have Hst2 := Lib.hid (Hst1.out.trans hst2)
        have Ho2 : Hid (w2.ownsRow B 56 1 v2 (xs ++ letP d s.data.toList (p + 1)).length (flts (xs ++ letP d s.data.toList (p + 1)))) := by
         have e : xs ++ letP d s.data.toList (p + 1) = ys ++ List.replicate (3 * d) one32 := by rw [Hstep.out, ← List.append_assoc, ← Hys.out, Hpk.out]; simp [HP.out, H49.out]
         unfold Hid; rw [e]; exact ho2
        clear ho2 hst2
        go_wp2
        go_roundg (s.size - (p + 1))
        case measure => omega
        case rel => exact ⟨p + 1, by omega, rfl, Hit2, Ho2, Hst2, Hne2⟩
      · have HP : Hid ((p = 0) = False) := by unfold Hid; simp [hp0]
        have hp0b : decide (0 < p) = true := by simp; omega
        clear hp0
        go_wp2_with fail
        refine (held_step B u0 ys 0 (d : Int) _ Ho1.out HBW.out (by omega) (by have := Hlen.out; omega)).mono ?_
        rintro e w2 ⟨v2, rfl, ho2, hst1⟩
        simp only [Int.toNat_natCast] at ho2
        have HO2 := Lib.hid ho2
        have HS1 := Lib.hid hst1
        have hB2 : B ≤ w2.heap.size := by have := HBW.out; have := hst1.1.size; omega
        have HB2 := Lib.hid hB2
        have hl2 : (ys ++ List.replicate d 0).length ≤ 1000000 := by rw [List.length_append, List.length_replicate]; have := Hlen.out; omega
        have Hl2 := Lib.hid hl2
        clear ho2 hst1 hB2 hl2
        go_wp2_with fail
        refine (held_step B v2 (ys ++ List.replicate d 0) one32 (3 * (d : Int)) _ HO2.out HB2.out (by omega) Hl2.out).mono ?_
        rintro e w3 ⟨v3, rfl, ho3, hst2⟩
        simp only [H3.out] at ho3
        have hst2 := HS1.out.trans hst2
        have Hit2 := Lib.hid (hst2.heap Hit1.out (Ne.symm Hne.out))
        have Hne2 := Lib.hid (hst2.ne Hne.out (by have := Hsz1.out; omega))
        have Hst2 := Lib.hid (Hst1.out.trans hst2)
        have Ho2 : Hid (w3.ownsRow B 56 1 v3 (xs ++ letP d s.data.toList (p + 1)).length (flts (xs ++ letP d s.data.toList (p + 1)))) := by
         have e : xs ++ letP d s.data.toList (p + 1) = ys ++ List.replicate d 0 ++ List.replicate (3 * d) one32 := by rw [Hstep.out, ← List.append_assoc, ← Hys.out, Hpk.out]; simp [HP.out, H49.out]
         unfold Hid; rw [e]; exact ho3
        clear ho3 hst2
        go_wp2
        go_roundg (s.size - (p + 1))
        case measure => omega
        case rel => exact ⟨p + 1, by omega, rfl, Hit2, Ho2, Hst2, Hne2⟩
    · have h49b : ((r : Int) == 49) = false := by simp; omega
      have H49 : Hid ((r = 49) = False) := by unfold Hid; simp [h49]
      clear h49
      by_cases hp0 : p = 0
      · have HP : Hid ((p = 0) = True) := by unfold Hid; simp [hp0]
        have hp0b : decide (0 < p) = false := by simp; omega
        clear hp0
        go_wp2_with fail
        refine (held_step B u0 ys one32 (d : Int) _ Ho1.out HBW.out (by omega) (by have := Hlen.out; omega)).mono ?_
        rintro e w2 ⟨v2, rfl, ho2, hst2⟩
        simp only [Int.toNat_natCast] at ho2
        have Hit2 := Lib.hid (hst2.heap Hit1.out (Ne.symm Hne.out))
        have Hne2 := Lib.hid (hst2.ne Hne.out (by have := Hsz1.out; omega))
        have Hst2 := Lib.hid (Hst1.out.trans hst2)
        have Ho2 : Hid (w2.ownsRow B 56 1 v2 (xs ++ letP d s.data.toList (p + 1)).length (flts (xs ++ letP d s.data.toList (p + 1)))) := by
         have e : xs ++ letP d s.data.toList (p + 1) = ys ++ List.replicate d one32 := by rw [Hstep.out, ← List.append_assoc, ← Hys.out, Hpk.out]; simp [HP.out, H49.out]
         unfold Hid; rw [e]; exact ho2
        clear ho2 hst2
        go_wp2
        go_roundg (s.size - (p + 1))
        case measure => omega
        case rel => exact ⟨p + 1, by omega, rfl, Hit2, Ho2, Hst2, Hne2⟩
      · have HP : Hid ((p = 0) = False) := by unfold Hid; simp [hp0]
        have hp0b : decide (0 < p) = true := by simp; omega
        clear hp0
        go_wp2_with fail
        refine (held_step B u0 ys 0 (d : Int) _ Ho1.out HBW.out (by omega) (by have := Hlen.out; omega)).mono ?_
        rintro e w2 ⟨v2, rfl, ho2, hst1⟩
        simp only [Int.toNat_natCast] at ho2
        have HO2 := Lib.hid ho2
        have HS1 := Lib.hid hst1
        have hB2 : B ≤ w2.heap.size := by have := HBW.out; have := hst1.1.size; omega
        have HB2 := Lib.hid hB2
        have hl2 : (ys ++ List.replicate d 0).length ≤ 1000000 := by rw [List.length_append, List.length_replicate]; have := Hlen.out; omega
        have Hl2 := Lib.hid hl2
        clear ho2 hst1 hB2 hl2
        go_wp2_with fail
        refine (held_step B v2 (ys ++ List.replicate d 0) one32 (d : Int) _ HO2.out HB2.out (by omega) Hl2.out).mono ?_
        rintro e w3 ⟨v3, rfl, ho3, hst2⟩
        simp only [Int.toNat_natCast] at ho3
        have hst2 := HS1.out.trans hst2
        have Hit2 := Lib.hid (hst2.heap Hit1.out (Ne.symm Hne.out))
        have Hne2 := Lib.hid (hst2.ne Hne.out (by have := Hsz1.out; omega))
        have Hst2 := Lib.hid (Hst1.out.trans hst2)
        have Ho2 : Hid (w3.ownsRow B 56 1 v3 (xs ++ letP d s.data.toList (p + 1)).length (flts (xs ++ letP d s.data.toList (p + 1)))) := by
         have e : xs ++ letP d s.data.toList (p + 1) = ys ++ List.replicate d 0 ++ List.replicate d one32 := by rw [Hstep.out, ← List.append_assoc, ← Hys.out, Hpk.out]; simp [HP.out, H49.out]
         unfold Hid; rw [e]; exact ho3
        clear ho3 hst2
        go_wp2
        go_roundg (s.size - (p + 1))
        case measure => omega
        case rel => exact ⟨p + 1, by omega, rfl, Hit2, Ho2, Hst2, Hne2⟩
  · have hnx := fun ty => Lib.run_next_end_at (P := Tryz.prog) wr w.heap.size s p ty Hit.out hlt
    obtain rfl : p = s.size := by omega
    have hl : s.data.toList.length = s.size := by simp
    have Hl := Lib.hid hl
    clear hl
    go_wp2
    go_ret
    exact ⟨_, rfl, by unfold letS; rw [Hl.out]; exact Ho.out, Hst.out⟩
end Go.Proofs.YtjdniebjhilooaaGreatDoor
