import Derived.Test.YtlflfieknibgmaaGreatDoorM12
import Derived.Test.YtlflfieknibgmaaGreatDoorM07
namespace Go.Proofs.YtlflfieknibgmaaGreatDoor
set_option linter.all false
open Go.RowKit Go.Fl
def partE (M : Int) (p : Int × Int) : Int := firstI [whenI (rangeB p.1 (-M) M) 3, whenI (rangeB p.2 (-M) M) 3]
theorem fieldsG : ((Tryz.prog.fieldsOf 25).toList.map fun f => (f.name, f.type, f.offset)) = [("Re", 3, 0), ("Im", 3, 1)] := by kernel_rfl
theorem eqlGauss (a b c d : Int) (w : World) : (binOp .eql 25 (.agg #[.int .i64 a, .int .i64 b]) (.agg #[.int .i64 c, .int .i64 d])).run Tryz.prog w = .ok (.bool (a == c && b == d)) w := by
  have i3 := Tryz.underlying3
  have e1 : ∀ (a b : Int), (part 3 #[.int .i64 a, .int .i64 b] 0).run Tryz.prog w = .ok (.int .i64 a) w := fun a b => part_int _ _ _ rfl w
  have e2 : ∀ (a b : Int), (part 3 #[.int .i64 a, .int .i64 b] 1).run Tryz.prog w = .ok (.int .i64 b) w := fun a b => part_int _ _ _ rfl w
  have e4 := fun (a b : Int) => run_equalIn_int (P := Tryz.prog) w 9998 3 .i64 .i64 a b i3
  have n1 : ("Re" : String) ≠ "_" := by decide
  have n2 : ("Im" : String) ≠ "_" := by decide
  rw [run_eql_struct, run_eqStruct w 9999 _ _ _ _ (by kernel_rfl) (by kernel_rfl) fieldsG]
  simp only [eqTriples, if_pos n1, if_pos n2, Sem.run_bind, e1, e2, e4, Result.andThen_ok, Sem.run_ite, Sem.run_pure]
  cases a == c <;> cases b == d <;> simp [e1, e2, e4]
theorem keepT {w w' : World} {p : Addr} {v : Value} (h : w.cell? p = some v) (hb : Below w.heap.size w w') : w'.cell? p = some v := (hb.cell (World.block_lt_of_cell? w p h)).trans h
theorem Rd.newT {w : World} {t : TypeId} {xs : List Value} : Rd (w.alloc (.cells xs.toArray t)) (some ⟨w.heap.size, 0, none⟩) xs := Rd.row (Row.new w t xs)
set_option maxRecDepth 100000 in
set_option maxHeartbeats 1000000 in
theorem checkPartF_any (M a b : Int) (g : Nat) (w : World) (hg : w.cell? ⟨g, 0, none⟩ = some (.int .i64 M)) (hM : M.natAbs ≤ 1000000) : Calls Tryz.prog 104 #[.agg #[.int .i64 a, .int .i64 b], .pointer (some ⟨g, 0, none⟩)] w fun e w' => e = .returned (.int .i64 (partE M (a, b))) ∧ Below w.heap.size w w' := by
  have e1 : IntKind.i64.wrap (-M) = -M := IntWalk.i64_in _ (by omega)
  have e2 : IntKind.i64.wrap (0 - M) = -M := by rw [Int.zero_sub]; exact e1
  clear hM
  go_enter Tryz.func104, Tryz.ntmps104
  go_upto_region 1 with fail
  refine genT (fun V => Row V (w.heap.size) 25 [.int .i64 a, .int .i64 b] ∧ V.cell? ⟨g, 0, none⟩ = some (.int .i64 M) ∧ Below w.heap.size w V) ⟨Row.new w _ [.int .i64 a, .int .i64 b], keepT hg ((Below.refl _ _).alloc (Nat.le_refl _) _), (Below.refl _ _).alloc (Nat.le_refl _) _⟩ ?_
  clear hg
  intro W1 s1
  have HS1 := Lib.hid s1
  clear s1
  refine wp_region_held_drew (S := fun V => Row V (w.heap.size) 25 [.int .i64 a, .int .i64 b] ∧ V.cell? ⟨g, 0, none⟩ = some (.int .i64 M) ∧ Below w.heap.size w V) (by kernel_rfl) ?_ (fun hHeld => ?_)
  · exact ⟨(HS1.out.1).drew, (HS1.out.2.1), (HS1.out.2.2).drew⟩
  refine wpAnyH_take (i := 0) (oi := ⟨some 4, _, _, _, _, _⟩) (v := ?_) rfl (by kernel_rfl) (by kernel_rfl) (by kernel_rfl) (fun _ _ _ h => h) (Or.inl ⟨by kernel_rfl, ?_⟩) hHeld ?_
  rotate_left
  · intro w1 hSw; (try dsimp only at hSw); go_simp <;> with_reducible rfl
  try simp only [Act.put, List.setIfInBounds_toArray, List.set_cons_zero, List.set_cons_succ]
  refine wpAnyH_take (i := 1) (oi := ⟨some 5, _, _, _, _, _⟩) (v := ?_) rfl (by kernel_rfl) (by kernel_rfl) (by kernel_rfl) (fun _ _ _ h => h) (Or.inl ⟨by kernel_rfl, ?_⟩) hHeld ?_
  rotate_left
  · intro w1 hSw; (try dsimp only at hSw); have cc := (hSw.1).cell 0; simp only [List.getElem?_cons_succ, List.getElem?_cons_zero] at cc; go_simp <;> with_reducible rfl
  try simp only [Act.put, List.setIfInBounds_toArray, List.set_cons_zero, List.set_cons_succ]
  refine wpAnyH_take (i := 2) (oi := ⟨some 6, _, _, _, _, _⟩) (v := ?_) rfl (by kernel_rfl) (by kernel_rfl) (by kernel_rfl) (fun _ _ _ h => h) (Or.inl ⟨by kernel_rfl, ?_⟩) hHeld ?_
  rotate_left
  · intro w1 hSw; (try dsimp only at hSw); have cc := hSw.2.1; go_simp <;> with_reducible rfl
  try simp only [Act.put, List.setIfInBounds_toArray, List.set_cons_zero, List.set_cons_succ]
  refine wpAnyH_take (i := 3) (oi := ⟨some 7, _, _, _, _, _⟩) (v := ?_) rfl (by kernel_rfl) (by kernel_rfl) (by kernel_rfl) (fun _ _ _ h => h) (Or.inl ⟨by kernel_rfl, ?_⟩) hHeld ?_
  rotate_left
  · intro w1 hSw; (try dsimp only at hSw); go_simp <;> with_reducible rfl
  try simp only [Act.put, List.setIfInBounds_toArray, List.set_cons_zero, List.set_cons_succ]
  refine wpAnyH_take (i := 4) (oi := ⟨some 8, _, _, _, _, _⟩) (v := ?_) rfl (by kernel_rfl) (by kernel_rfl) (by kernel_rfl) (fun _ _ _ h => h) (Or.inl ⟨by kernel_rfl, ?_⟩) hHeld ?_
  rotate_left
  · intro w1 hSw; (try dsimp only at hSw); have cc := hSw.2.1; go_simp <;> with_reducible rfl
  try simp only [Act.put, List.setIfInBounds_toArray, List.set_cons_zero, List.set_cons_succ]
  refine wpAnyH_take (i := 6) (oi := ⟨some 10, _, _, _, _, _⟩) (v := ?_) rfl (by kernel_rfl) (by kernel_rfl) (by kernel_rfl) (fun _ _ _ h => h) (Or.inl ⟨by kernel_rfl, ?_⟩) hHeld ?_
  rotate_left
  · intro w1 hSw; (try dsimp only at hSw); go_simp <;> with_reducible rfl
  try simp only [Act.put, List.setIfInBounds_toArray, List.set_cons_zero, List.set_cons_succ]
  refine wpAnyH_take (i := 7) (oi := ⟨some 11, _, _, _, _, _⟩) (v := ?_) rfl (by kernel_rfl) (by kernel_rfl) (by kernel_rfl) (fun _ _ _ h => h) (Or.inl ⟨by kernel_rfl, ?_⟩) hHeld ?_
  rotate_left
  · intro w1 hSw; (try dsimp only at hSw); have cc := (hSw.1).cell 1; simp only [List.getElem?_cons_succ, List.getElem?_cons_zero] at cc; go_simp <;> with_reducible rfl
  try simp only [Act.put, List.setIfInBounds_toArray, List.set_cons_zero, List.set_cons_succ]
  refine wpAnyH_take (i := 8) (oi := ⟨some 12, _, _, _, _, _⟩) (v := ?_) rfl (by kernel_rfl) (by kernel_rfl) (by kernel_rfl) (fun _ _ _ h => h) (Or.inl ⟨by kernel_rfl, ?_⟩) hHeld ?_
  rotate_left
  · intro w1 hSw; (try dsimp only at hSw); have cc := hSw.2.1; go_simp <;> with_reducible rfl
  try simp only [Act.put, List.setIfInBounds_toArray, List.set_cons_zero, List.set_cons_succ]
  refine wpAnyH_take (i := 9) (oi := ⟨some 13, _, _, _, _, _⟩) (v := ?_) rfl (by kernel_rfl) (by kernel_rfl) (by kernel_rfl) (fun _ _ _ h => h) (Or.inl ⟨by kernel_rfl, ?_⟩) hHeld ?_
  rotate_left
  · intro w1 hSw; (try dsimp only at hSw); go_simp <;> with_reducible rfl
  try simp only [Act.put, List.setIfInBounds_toArray, List.set_cons_zero, List.set_cons_succ]
  refine wpAnyH_take (i := 10) (oi := ⟨some 14, _, _, _, _, _⟩) (v := ?_) rfl (by kernel_rfl) (by kernel_rfl) (by kernel_rfl) (fun _ _ _ h => h) (Or.inl ⟨by kernel_rfl, ?_⟩) hHeld ?_
  rotate_left
  · intro w1 hSw; (try dsimp only at hSw); have cc := hSw.2.1; go_simp <;> with_reducible rfl
  try simp only [Act.put, List.setIfInBounds_toArray, List.set_cons_zero, List.set_cons_succ]
  refine wpAnyH_ready (rs := [5]) (by kernel_rfl) (by simp) ?_
  refine AllReadyH.cons rfl (fun K hK => ?_) AllReadyH.nil
  go_simp
  go_at_call 34
  refine (between_any a (-M) M _).mono ?_
  rintro e v5 ⟨rfl, rfl⟩
  try go_simp
  refine hK.out _ _ ?_ (fun hHeld => ?_)
  · exact hHeld
  clear hK K
  try simp only [Act.put, List.setIfInBounds_toArray, List.set_cons_zero, List.set_cons_succ]
  refine wpAnyH_ready (rs := [11]) (by kernel_rfl) (by simp) ?_
  refine AllReadyH.cons rfl (fun K hK => ?_) AllReadyH.nil
  go_simp
  go_at_call 34
  refine (between_any b (-M) M _).mono ?_
  rintro e v11 ⟨rfl, rfl⟩
  try go_simp
  refine hK.out _ _ ?_ (fun hHeld => ?_)
  · exact hHeld
  clear hK K
  try simp only [Act.put, List.setIfInBounds_toArray, List.set_cons_zero, List.set_cons_succ]
  refine wpAnyH_ready (rs := [12]) (by kernel_rfl) (by simp) ?_
  refine AllReadyH.cons rfl (fun K hK => ?_) AllReadyH.nil
  go_simp
  refine hK.out _ _ ?_ (fun hHeld => ?_)
  · exact ⟨(hHeld.1).old ((Below.refl _ _).alloc (Nat.le_refl _) _), keepT (hHeld.2.1) ((Below.refl _ _).alloc (Nat.le_refl _) _), (hHeld.2.2).trans ((((Below.refl _ _).alloc (Nat.le_refl _) _)).mono (hHeld.2.2).size)⟩
  clear hK K
  try simp only [Act.put, List.setIfInBounds_toArray, List.set_cons_zero, List.set_cons_succ]
  refine wpAnyH_ready (rs := [13]) (by kernel_rfl) (by simp) ?_
  refine AllReadyH.cons rfl (fun K hK => ?_) AllReadyH.nil
  go_simp
  go_at_call 32
  refine (firstV_any _ _ _ [whenI (rangeB a (-M) M) 3, whenI (rangeB b (-M) M) 3] _ ?_ rfl (by simp)).mono ?_
  · exact Rd.newT (t := 31)
  rintro e v13 ⟨rfl, rfl⟩
  try go_simp
  refine hK.out _ _ ?_ (fun hHeld => ?_)
  · exact hHeld
  clear hK K
  try simp only [Act.put, List.setIfInBounds_toArray, List.set_cons_zero, List.set_cons_succ]
  refine wpAnyH_take (i := 14) (oi := ⟨some 3, _, _, _, _, _⟩) (v := ?_) rfl (by kernel_rfl) (by kernel_rfl) (by kernel_rfl) (fun _ _ _ h => h) (Or.inl ⟨by kernel_rfl, ?_⟩) hHeld ?_
  rotate_left
  · intro w1 hSw; (try dsimp only at hSw); go_simp <;> with_reducible rfl
  try simp only [Act.put, List.setIfInBounds_toArray, List.set_cons_zero, List.set_cons_succ]
  refine wpAnyH_done (by kernel_rfl) ?_ _
  go_wp2_with fail
  go_ret
  exact ⟨rfl, hHeld.2.2⟩
def gsC (l : List (Int × Int)) : List Value := l.flatMap fun p => [.int .i64 p.1, .int .i64 p.2]
theorem Rd.gs {w : World} {A : Option Addr} {l : List (Int × Int)} (h : Rd w A (gsC l)) {k : Nat} (hk : k < l.length) : ∃ b off, A = some ⟨b, off, none⟩ ∧ w.cell? ⟨b, off + k * 2, none⟩ = some (.int .i64 l[k].1) ∧ w.cell? ⟨b, off + k * 2 + 1, none⟩ = some (.int .i64 l[k].2) := by
  have g0 : (gsC l)[k * 2]? = some (.int .i64 l[k].1) ∧ (gsC l)[k * 2 + 1]? = some (.int .i64 l[k].2) := by
    clear h
    induction l generalizing k with
    | nil => simp at hk
    | cons p l ih =>
      cases k with
      | zero => exact ⟨rfl, rfl⟩
      | succ k =>
        have := ih (k := k) (by simpa using hk)
        have e : (k + 1) * 2 = k * 2 + 1 + 1 := by omega
        rw [e]
        exact this
  obtain ⟨b, o, e, c0⟩ := h _ _ g0.1
  obtain ⟨b', o', e', c1⟩ := h _ _ g0.2
  rw [e] at e'
  cases e'
  exact ⟨b, o, e, c0, by rw [Nat.add_assoc]; exact c1⟩
set_option maxRecDepth 100000 in
set_option maxHeartbeats 1000000 in
theorem mappedG_any (A : Option Addr) (c : Nat) (l : List (Int × Int)) (M : Int) (p : Nat) (w : World) (hA : Rd w A (gsC l)) (hp : w.cell? ⟨p, 0, none⟩ = some (.int .i64 M)) (hM : M.natAbs ≤ 1000000) (hm : l.length ≤ 1000) :
    Calls Tryz.prog 103 #[.slice A l.length c, .func (.func 104) #[] #[.pointer (some ⟨p, 0, none⟩)]] w fun e w' => ∃ g, e = .returned (.slice (some ⟨g, 0, none⟩) l.length l.length) ∧ Row w' g 31 (ints (l.map (partE M))) ∧ w.heap.size ≤ g ∧ Below w.heap.size w w' := by
  have hmk := fun W : World => make1 (P := Tryz.prog) 193 31 (.int .i64 0) 8 Tryz.underlying193 info27 rfl l.length (by omega) (by omega) W
  go_enter Tryz.func103, Tryz.ntmps103
  go_wp2
  go_loopw [13] (fun i wr => ∃ k : Nat, k ≤ l.length ∧ i = .int .i64 k ∧ Row wr w.heap.size 31 (ints ((l.map (partE M)).take k) ++ List.replicate (l.length - k) (.int .i64 0)) ∧ Below w.heap.size w wr) (fun i _ => l.length - (intOf i).toNat)
  case atStart => exact ⟨0, Nat.zero_le _, rfl, by have := Row.new w 31 (List.replicate l.length (.int .i64 0)); simpa [ints] using this, (Below.refl _ _).alloc (Nat.le_refl _) _⟩
  case round =>
    obtain ⟨k, hk, rfl, hrow, hb⟩ := hrel
    by_cases hlt : k < l.length
    · obtain ⟨b, off, rfl, hc1, hc2⟩ := Rd.gs (hA.below hb) hlt
      obtain ⟨x, hx⟩ : ∃ x, x = l[k].1 := ⟨_, rfl⟩
      obtain ⟨y, hy⟩ : ∃ y, y = l[k].2 := ⟨_, rfl⟩
      rw [← hx] at hc1; rw [← hy] at hc2
      have hset := Lib.hid (part_set (l.map (partE M)) l.length k (by simpa using hlt) (by simp))
      have hfk := Lib.hid (show (l.map (partE M))[k]'(by simpa using hlt) = partE M (x, y) by rw [hx, hy]; simp)
      have HP : Hid (∀ W, Below w.heap.size w W → Calls Tryz.prog 104 #[.agg #[.int .i64 x, .int .i64 y], .pointer (some ⟨p, 0, none⟩)] W fun e w' => e = .returned (.int .i64 (partE M (x, y))) ∧ Below W.heap.size W w') := fun W h => checkPartF_any M x y p W ((h.cell (World.block_lt_of_cell? w _ hp)).trans hp) hM
      have hbn : Below wr.heap.size wr ((wr.alloc (.cells #[.int .i64 0, .int .i64 0] 25)).setRow wr.heap.size #[.int .i64 x, .int .i64 y]) := Below.setRow ((Below.refl _ _).alloc (Nat.le_refl _) _) (Nat.le_refl _) _
      have Hrow := Lib.hid (hrow.old hbn)
      have Hb := Lib.hid (hb.trans (hbn.mono hb.size))
      have Hn : Hid (Row ((wr.alloc (.cells #[.int .i64 0, .int .i64 0] 25)).setRow wr.heap.size #[.int .i64 x, .int .i64 y]) wr.heap.size 25 [.int .i64 x, .int .i64 y]) := (Row.new wr 25 [.int .i64 0, .int .i64 0]).setRow _
      obtain ⟨E1, hE1⟩ : ∃ E1, E1 = partE M (x, y) := ⟨_, rfl⟩
      rw [← hE1] at HP hfk
      clear hrow hb hx hy hbn hE1
      go_wp2_with (first
        | (refine wpList_store_row rfl 25 _ _ rfl (wr.heap.size) #[.int .i64 x, .int .i64 y] rfl rfl 25 _ (Row.new wr 25 [.int .i64 0, .int .i64 0]) ?_ ?_ ?_ ?_; (kernel_rfl); (rfl); (simp [Value.oneCell']))
        | (refine wpList_load_row rfl 25 _ rfl (wr.heap.size) rfl 25 #[.int .i64 x, .int .i64 y] (0, 0) _ Hn.out Tryz.underlying25 rfl ?_ ?_; (kernel_rfl)))
      refine (HP.out _ Hb.out).mono ?_
      rintro e w1 ⟨rfl, hb1⟩
      have Hrow1 := Lib.hid (Hrow.out.old hb1)
      have hc1 : w1.cell? ⟨w.heap.size, k, none⟩ = some (.int .i64 0) := by
        rw [Hrow1.out.cell]
        exact mid_get _ _ _ _ (by simp [ints]; omega) hlt
      have hf1 := Hrow1.out.free k
      have Hb1 := Lib.hid (Hb.out.trans (hb1.mono Hb.out.size))
      clear hb1
      go_wp2
      go_roundw
      case rel => exact ⟨k + 1, by omega, by go_num, by rw [← hset.out, hfk.out]; exact Hrow1.out.set k _, Hb1.out.setCell (by simp) _⟩
      case measure => simp [intOf]; omega
    · obtain rfl : k = l.length := by omega
      go_wp2
      go_ret
      exact ⟨_, rfl, by rw [Nat.sub_self, List.replicate_zero, List.append_nil, List.take_of_length_le (by simp)] at hrow; exact hrow, Nat.le_refl _, hb⟩
set_option maxRecDepth 100000 in
set_option maxHeartbeats 1000000 in
theorem checkParts_any (A : Option Addr) (n c : Nat) (l : List (Int × Int)) (M : Int) (w : World) (hA : Rd w A (gsC l)) (hn : n = l.length) (hM : M.natAbs ≤ 1000000) (hm : l.length ≤ 1000) :
    Calls Tryz.prog 44 #[.int .i64 M, .slice A n c] w fun e w' => e = .returned (.int .i64 (firstI (l.map (partE M)))) ∧ Below w.heap.size w w' := by
  subst hn
  have hb0 : Below w.heap.size w (w.alloc (.cells #[.int .i64 M] 3)) := (Below.refl _ _).alloc (Nat.le_refl _) _
  have HM := Lib.hid (mappedG_any A c l M w.heap.size (w.alloc (.cells #[.int .i64 M] 3)) (hA.below hb0) ((Row.new w 3 [.int .i64 M]).cell 0) hM hm)
  have HB := Lib.hid hb0
  clear hb0 hA hM
  go_enter Tryz.func44, Tryz.ntmps44
  go_wp2_with fail
  refine HM.out.mono ?_
  rintro e w1 ⟨g, rfl, hrow, hg, hb⟩
  have HB1 := Lib.hid (HB.out.trans (hb.mono HB.out.size))
  clear hb
  go_wp2_with fail
  refine (firstV_any _ _ _ (l.map (partE M)) _ (Rd.row hrow) (by simp) (by simp; omega)).mono ?_
  rintro e w2 ⟨rfl, rfl⟩
  go_wp2
  go_ret
  exact ⟨rfl, HB1.out⟩
def sigE (a b c d x y : Int) : Int := firstI [firstI ([(a, b), (c, d), (x, y)].map (partE 10000)), whenI (a == 0 && b == 0) 6]
set_option maxRecDepth 100000 in
set_option maxHeartbeats 1000000 in
theorem checkSignal_any (a b c d x y : Int) (w : World) : Calls Tryz.prog 38 #[.agg #[.int .i64 a, .int .i64 b, .int .i64 c, .int .i64 d, .int .i64 x, .int .i64 y]] w fun e w' => e = .returned (.int .i64 (sigE a b c d x y)) ∧ Below w.heap.size w w' := by
  have HP : Hid (∀ W g, Row W g 25 [.int .i64 a, .int .i64 b, .int .i64 c, .int .i64 d, .int .i64 x, .int .i64 y] → Calls Tryz.prog 44 #[.int .i64 10000, .slice (some ⟨g, 0, none⟩) 3 3] W fun e w' => e = .returned (.int .i64 (firstI ([(a, b), (c, d), (x, y)].map (partE 10000)))) ∧ Below W.heap.size W w') := fun W g h => checkParts_any (some ⟨g, 0, none⟩) 3 3 [(a, b), (c, d), (x, y)] 10000 W (Rd.row h) rfl (by decide) (by simp)
  obtain ⟨E1, hE1⟩ : ∃ E1, E1 = firstI ([(a, b), (c, d), (x, y)].map (partE 10000)) := ⟨_, rfl⟩
  unfold sigE
  rw [← hE1] at HP ⊢
  obtain ⟨zb, hzb⟩ : ∃ zb, zb = (a == 0 && b == 0) := ⟨_, rfl⟩
  rw [← hzb]
  have hz : ∀ w, (binOp .eql 25 (.agg #[.int .i64 a, .int .i64 b]) (.agg #[.int .i64 0, .int .i64 0])).run Tryz.prog w = .ok (.bool zb) w := fun w => by rw [hzb]; exact eqlGauss a b 0 0 w
  clear hE1 hzb
  go_enter Tryz.func38, Tryz.ntmps38
  go_upto_region 1 with fail
  refine genT (fun V => Row V (w.heap.size) 34 [.int .i64 a, .int .i64 b, .int .i64 c, .int .i64 d, .int .i64 x, .int .i64 y] ∧ Below w.heap.size w V) ⟨Row.new w _ [.int .i64 a, .int .i64 b, .int .i64 c, .int .i64 d, .int .i64 x, .int .i64 y], (Below.refl _ _).alloc (Nat.le_refl _) _⟩ ?_
  intro W1 s1
  have HS1 := Lib.hid s1
  clear s1
  refine wp_region_held_drew (S := fun V => Row V (w.heap.size) 34 [.int .i64 a, .int .i64 b, .int .i64 c, .int .i64 d, .int .i64 x, .int .i64 y] ∧ Below w.heap.size w V) (by kernel_rfl) ?_ (fun hHeld => ?_)
  · exact ⟨(HS1.out.1).drew, (HS1.out.2).drew⟩
  refine wpAnyH_take (i := 0) (oi := ⟨some 3, _, _, _, _, _⟩) (v := ?_) rfl (by kernel_rfl) (by kernel_rfl) (by kernel_rfl) (fun _ _ _ h => h) (Or.inl ⟨by kernel_rfl, ?_⟩) hHeld ?_
  rotate_left
  · intro w1 hSw; (try dsimp only at hSw); go_simp <;> with_reducible rfl
  try simp only [Act.put, List.setIfInBounds_toArray, List.set_cons_zero, List.set_cons_succ]
  refine wpAnyH_take (i := 1) (oi := ⟨some 4, _, _, _, _, _⟩) (v := .agg #[.int .i64 a, .int .i64 b]) rfl (by kernel_rfl) (by kernel_rfl) (by kernel_rfl) (fun _ _ _ h => h) (Or.inl ⟨by kernel_rfl, fun V hV => ex_Gauss _ rfl (w.heap.size) 0 rfl ((hV.1).cell 0) ((hV.1).cell 1)⟩) hHeld ?_
  try simp only [Act.put, List.setIfInBounds_toArray, List.set_cons_zero, List.set_cons_succ]
  refine wpAnyH_take (i := 2) (oi := ⟨some 5, _, _, _, _, _⟩) (v := ?_) rfl (by kernel_rfl) (by kernel_rfl) (by kernel_rfl) (fun _ _ _ h => h) (Or.inl ⟨by kernel_rfl, ?_⟩) hHeld ?_
  rotate_left
  · intro w1 hSw; (try dsimp only at hSw); go_simp <;> with_reducible rfl
  try simp only [Act.put, List.setIfInBounds_toArray, List.set_cons_zero, List.set_cons_succ]
  refine wpAnyH_take (i := 3) (oi := ⟨some 6, _, _, _, _, _⟩) (v := .agg #[.int .i64 c, .int .i64 d]) rfl (by kernel_rfl) (by kernel_rfl) (by kernel_rfl) (fun _ _ _ h => h) (Or.inl ⟨by kernel_rfl, fun V hV => ex_Gauss _ rfl (w.heap.size) 2 rfl ((hV.1).cell 2) ((hV.1).cell 3)⟩) hHeld ?_
  try simp only [Act.put, List.setIfInBounds_toArray, List.set_cons_zero, List.set_cons_succ]
  refine wpAnyH_take (i := 4) (oi := ⟨some 7, _, _, _, _, _⟩) (v := ?_) rfl (by kernel_rfl) (by kernel_rfl) (by kernel_rfl) (fun _ _ _ h => h) (Or.inl ⟨by kernel_rfl, ?_⟩) hHeld ?_
  rotate_left
  · intro w1 hSw; (try dsimp only at hSw); go_simp <;> with_reducible rfl
  try simp only [Act.put, List.setIfInBounds_toArray, List.set_cons_zero, List.set_cons_succ]
  refine wpAnyH_take (i := 5) (oi := ⟨some 8, _, _, _, _, _⟩) (v := .agg #[.int .i64 x, .int .i64 y]) rfl (by kernel_rfl) (by kernel_rfl) (by kernel_rfl) (fun _ _ _ h => h) (Or.inl ⟨by kernel_rfl, fun V hV => ex_Gauss _ rfl (w.heap.size) 4 rfl ((hV.1).cell 4) ((hV.1).cell 5)⟩) hHeld ?_
  try simp only [Act.put, List.setIfInBounds_toArray, List.set_cons_zero, List.set_cons_succ]
  refine wpAnyH_take (i := 8) (oi := ⟨some 11, _, _, _, _, _⟩) (v := ?_) rfl (by kernel_rfl) (by kernel_rfl) (by kernel_rfl) (fun _ _ _ h => h) (Or.inl ⟨by kernel_rfl, ?_⟩) hHeld ?_
  rotate_left
  · intro w1 hSw; (try dsimp only at hSw); go_simp <;> with_reducible rfl
  try simp only [Act.put, List.setIfInBounds_toArray, List.set_cons_zero, List.set_cons_succ]
  refine wpAnyH_take (i := 9) (oi := ⟨some 12, _, _, _, _, _⟩) (v := .agg #[.int .i64 a, .int .i64 b]) rfl (by kernel_rfl) (by kernel_rfl) (by kernel_rfl) (fun _ _ _ h => h) (Or.inl ⟨by kernel_rfl, fun V hV => ex_Gauss _ rfl (w.heap.size) 0 rfl ((hV.1).cell 0) ((hV.1).cell 1)⟩) hHeld ?_
  try simp only [Act.put, List.setIfInBounds_toArray, List.set_cons_zero, List.set_cons_succ]
  refine wpAnyH_take (i := 10) (oi := ⟨some 13, _, _, _, _, _⟩) (v := ?_) rfl (by kernel_rfl) (by kernel_rfl) (by kernel_rfl) (fun _ _ _ h => h) (Or.inl ⟨by kernel_rfl, ?_⟩) hHeld ?_
  rotate_left
  · intro w1 hSw; (try dsimp only at hSw); go_simp <;> with_reducible rfl
  try simp only [Act.put, List.setIfInBounds_toArray, List.set_cons_zero, List.set_cons_succ]
  refine wpAnyH_take (i := 11) (oi := ⟨some 14, _, _, _, _, _⟩) (v := ?_) rfl (by kernel_rfl) (by kernel_rfl) (by kernel_rfl) (fun _ _ _ h => h) (Or.inl ⟨by kernel_rfl, ?_⟩) hHeld ?_
  rotate_left
  · intro w1 hSw; (try dsimp only at hSw); go_simp <;> with_reducible rfl
  try simp only [Act.put, List.setIfInBounds_toArray, List.set_cons_zero, List.set_cons_succ]
  refine wpAnyH_ready (rs := [6]) (by kernel_rfl) (by simp) ?_
  refine AllReadyH.cons rfl (fun K hK => ?_) AllReadyH.nil
  go_simp
  refine hK.out _ _ ?_ (fun hHeld => ?_)
  · exact ⟨(hHeld.1).old ((Below.refl _ _).alloc (Nat.le_refl _) _), (hHeld.2).trans ((((Below.refl _ _).alloc (Nat.le_refl _) _)).mono (hHeld.2).size)⟩
  clear hK K
  try simp only [Act.put, List.setIfInBounds_toArray, List.set_cons_zero, List.set_cons_succ]
  refine wpAnyH_ready (rs := [7]) (by kernel_rfl) (by simp) ?_
  refine AllReadyH.cons rfl (fun K hK => ?_) AllReadyH.nil
  go_simp
  go_at_call 44
  refine (HP.out _ _ (Row.drew (Row.new _ _ _))).mono ?_
  rintro e v7 ⟨rfl, hb7⟩
  try go_simp
  refine hK.out _ _ ?_ (fun hHeld => ?_)
  · exact ⟨(hHeld.1).old hb7, (hHeld.2).trans ((hb7).mono (hHeld.2).size)⟩
  clear hK K
  try simp only [Act.put, List.setIfInBounds_toArray, List.set_cons_zero, List.set_cons_succ]
  refine wpAnyH_ready (rs := [12]) (by kernel_rfl) (by simp) ?_
  refine AllReadyH.cons rfl (fun K hK => ?_) AllReadyH.nil
  go_simp
  go_at_call 45
  refine (failed_any zb 6 _).mono ?_
  rintro e v12 ⟨rfl, rfl⟩
  try go_simp
  refine hK.out _ _ ?_ (fun hHeld => ?_)
  · exact hHeld
  clear hK K
  try simp only [Act.put, List.setIfInBounds_toArray, List.set_cons_zero, List.set_cons_succ]
  refine wpAnyH_ready (rs := [13]) (by kernel_rfl) (by simp) ?_
  refine AllReadyH.cons rfl (fun K hK => ?_) AllReadyH.nil
  go_simp
  refine hK.out _ _ ?_ (fun hHeld => ?_)
  · exact ⟨(hHeld.1).old ((Below.refl _ _).alloc (Nat.le_refl _) _), (hHeld.2).trans ((((Below.refl _ _).alloc (Nat.le_refl _) _)).mono (hHeld.2).size)⟩
  clear hK K
  try simp only [Act.put, List.setIfInBounds_toArray, List.set_cons_zero, List.set_cons_succ]
  refine wpAnyH_ready (rs := [14]) (by kernel_rfl) (by simp) ?_
  refine AllReadyH.cons rfl (fun K hK => ?_) AllReadyH.nil
  go_simp
  go_at_call 32
  refine (firstV_any _ _ _ [E1, whenI zb 6] _ ?_ rfl (by simp)).mono ?_
  · exact Rd.newT (t := 31)
  rintro e v13 ⟨rfl, rfl⟩
  try go_simp
  refine hK.out _ _ ?_ (fun hHeld => ?_)
  · exact hHeld
  clear hK K
  try simp only [Act.put, List.setIfInBounds_toArray, List.set_cons_zero, List.set_cons_succ]
  refine wpAnyH_take (i := 15) (oi := ⟨some 2, _, _, _, _, _⟩) (v := ?_) rfl (by kernel_rfl) (by kernel_rfl) (by kernel_rfl) (fun _ _ _ h => h) (Or.inl ⟨by kernel_rfl, ?_⟩) hHeld ?_
  rotate_left
  · intro w1 hSw; (try dsimp only at hSw); go_simp <;> with_reducible rfl
  try simp only [Act.put, List.setIfInBounds_toArray, List.set_cons_zero, List.set_cons_succ]
  refine wpAnyH_done (by kernel_rfl) ?_ _
  go_wp2_with fail
  go_ret
  exact ⟨rfl, hHeld.2⟩
theorem results_rt {P : Program} {fn : Func} {p t : Tmp} {ty : TypeId} (h : fn.results = #[.cell p ty, .tmp t]) (tmps : Array Value) (w : World) (g : Nat) (e : TypeId) (cs : Array Value) (fr : Nat × Nat) (d : TypeDesc)
    (hp : tmps.getD p undef = .pointer (some ⟨g, 0, none⟩)) (hg : w.heap[g]? = some (.cells cs e fr))
    (hu : P.underlying ty = some d) (hd : (match d with | .struct _ | .array _ _ => true | _ => false) = true) (hi : (P.info? ty).map (·.size) = some cs.size) :
    (results fn tmps).run P w = .ok (.tuple #[.agg cs, tmps.getD t undef]) w := by
  have hp' : tmps[p]?.getD undef = .pointer (some ⟨g, 0, none⟩) := by simpa using hp
  simp [results, h, hp', asAddr, run_loadVar_row w g e ty cs fr d hg hu hd hi]
theorem fI2 {a b : Int} (h : firstI [a, b] = 0) : a = 0 ∧ b = 0 := by
  by_cases ha : a = 0
  · subst ha
    have h2 : firstI [b] = 0 := h
    by_cases hb : b = 0
    · exact ⟨rfl, hb⟩
    · rw [firstI, if_neg hb] at h2; exact absurd h2 hb
  · rw [firstI, if_neg ha] at h; exact absurd h ha
theorem fI3 {a b c : Int} (h : firstI [a, b, c] = 0) : a = 0 ∧ b = 0 ∧ c = 0 := by
  by_cases ha : a = 0
  · subst ha
    exact ⟨rfl, fI2 h⟩
  · rw [firstI, if_neg ha] at h; exact absurd h ha
theorem whenZ {b : Bool} {k : Int} (hk : k ≠ 0) (h : whenI b k = 0) : b = false := by
  cases b
  · rfl
  · exact absurd h hk
theorem part_good {M : Int} {p : Int × Int} (h : partE M p = 0) : (-M ≤ p.1 ∧ p.1 ≤ M) ∧ (-M ≤ p.2 ∧ p.2 ≤ M) := by
  obtain ⟨h1, h2⟩ := fI2 h
  have h1 := whenZ (by decide) h1
  have h2 := whenZ (by decide) h2
  unfold rangeB at h1 h2
  simp only [Bool.or_eq_false_iff, decide_eq_false_iff_not] at h1 h2
  omega
structure SigG (a b c d x y : Int) : Prop where
  pa : -10000 ≤ a ∧ a ≤ 10000
  pb : -10000 ≤ b ∧ b ≤ 10000
  pc : -10000 ≤ c ∧ c ≤ 10000
  pd : -10000 ≤ d ∧ d ≤ 10000
  px : -10000 ≤ x ∧ x ≤ 10000
  py : -10000 ≤ y ∧ y ≤ 10000
  pn : ¬ (a = 0 ∧ b = 0)
theorem sig_good {a b c d x y : Int} (h : sigE a b c d x y = 0) : SigG a b c d x y := by
  obtain ⟨h1, h2⟩ := fI2 h
  obtain ⟨k1, k2, k3⟩ := fI3 h1
  have k1 := part_good k1; have k2 := part_good k2; have k3 := part_good k3
  have h2 := whenZ (by decide) h2
  refine ⟨k1.1, k1.2, k2.1, k2.2, k3.1, k3.2, fun ⟨e1, e2⟩ => ?_⟩
  subst e1 e2
  exact absurd h2 (by decide)
theorem SigG.g1 {a b c d x y : Int} (h : SigG a b c d x y) : Gs a b := by have := h.pa; have := h.pb; exact ⟨by omega, by omega⟩
theorem SigG.g2 {a b c d x y : Int} (h : SigG a b c d x y) : Gs c d := by have := h.pc; have := h.pd; exact ⟨by omega, by omega⟩
theorem SigG.g3 {a b c d x y : Int} (h : SigG a b c d x y) : Gs x y := by have := h.px; have := h.py; exact ⟨by omega, by omega⟩
theorem mul_self_nonneg' (a : Int) : 0 ≤ a * a := by
  rcases Int.le_total 0 a with h | h
  · exact Int.mul_nonneg h h
  · have h2 := Int.mul_nonneg (Int.neg_nonneg_of_nonpos h) (Int.neg_nonneg_of_nonpos h)
    rwa [Int.neg_mul_neg] at h2
theorem sq_pos {a b : Int} (h : ¬ (a = 0 ∧ b = 0)) : 0 < a * a + b * b := by
  have h1 : 0 ≤ a * a := mul_self_nonneg' a
  have h2 : 0 ≤ b * b := mul_self_nonneg' b
  by_cases ha : a = 0
  · have hb : b ≠ 0 := fun e => h ⟨ha, e⟩
    have h3 : b * b ≠ 0 := fun e => hb (by rcases Int.mul_eq_zero.1 e with e | e <;> exact e)
    omega
  · have h3 : a * a ≠ 0 := fun e => ha (by rcases Int.mul_eq_zero.1 e with e | e <;> exact e)
    omega
theorem SigG.pos {a b c d x y : Int} (h : SigG a b c d x y) : 0 < a * a + b * b ∧ a * a + b * b ≤ 9223372036854775807 := by
  have h1 := h.g1.along h.g1
  have h2 := sq_pos h.pn
  omega
def lowV (n d : Int) : List Value := [.int .i64 (n.tdiv (gcdI n d)), .int .i64 (d / gcdI n d)]
set_option maxRecDepth 100000 in
set_option maxHeartbeats 1000000 in
theorem needleT_ok (a b c d x y : Int) (w : World) (hE : sigE a b c d x y = 0) : Calls Tryz.prog 11 #[.agg #[.int .i64 a, .int .i64 b, .int .i64 c, .int .i64 d, .int .i64 x, .int .i64 y]] w fun e w' => e = .returned (.tuple #[.agg (lowV (c * a + d * b - (x * a + y * b)) (a * a + b * b)).toArray, .int .i64 0]) ∧ Below w.heap.size w w' := by
  have hg := sig_good hE
  have k1 := hg.g2.along hg.g1; have k2 := hg.g3.along hg.g1; have k3 := hg.pos
  obtain ⟨E, hE0⟩ : ∃ E : Int, E = 0 := ⟨_, rfl⟩
  rw [← hE0] at hE
  have HC : Hid (∀ W, Calls Tryz.prog 38 #[.agg #[.int .i64 a, .int .i64 b, .int .i64 c, .int .i64 d, .int .i64 x, .int .i64 y]] W fun e w' => e = .returned (.int .i64 E) ∧ Below W.heap.size W w') := fun W => by rw [← hE]; exact checkSignal_any a b c d x y W
  subst hE0
  have HM : Hid (∀ W, Calls Tryz.prog 46 #[.agg #[.int .i64 a, .int .i64 b, .int .i64 c, .int .i64 d, .int .i64 x, .int .i64 y]] W fun e w' => e = .returned (.agg #[.int .i64 (c * a + d * b - (x * a + y * b)), .int .i64 (a * a + b * b)]) ∧ Below W.heap.size W w') := fun W => needle_any a b c d x y W hg.g1 hg.g2 hg.g3
  obtain ⟨N, hN⟩ : ∃ N, N = c * a + d * b - (x * a + y * b) := ⟨_, rfl⟩
  obtain ⟨Q, hQ⟩ : ∃ Q, Q = a * a + b * b := ⟨_, rfl⟩
  have hbN : Bd N := by unfold Bd; omega
  rw [← hN, ← hQ] at HM ⊢
  rw [← hQ] at k3
  obtain ⟨p, hp⟩ : ∃ p, p = N.tdiv (gcdI N Q) := ⟨_, rfl⟩
  obtain ⟨q, hq⟩ : ∃ q, q = Q / gcdI N Q := ⟨_, rfl⟩
  have HQ : Hid (∀ W, Calls Tryz.prog 47 #[.agg #[.int .i64 N, .int .i64 Q]] W fun e w' => e = .returned (.agg #[.int .i64 p, .int .i64 q]) ∧ Below W.heap.size W w') := fun W => by rw [hp, hq]; exact ratioQ_any N Q W hbN k3
  have hlow : lowV N Q = [.int .i64 p, .int .i64 q] := by unfold lowV; rw [← hp, ← hq]
  rw [hlow]
  clear hE hg k1 k2 k3 hN hQ hbN hp hq hlow
  go_enter Tryz.func11, Tryz.ntmps11
  go_upto_region 1 with fail
  refine genT (fun V => Row V w.heap.size 34 [.int .i64 a, .int .i64 b, .int .i64 c, .int .i64 d, .int .i64 x, .int .i64 y] ∧ Row V (w.heap.size + 1) 40 [.int .i64 0, .int .i64 0] ∧ Below w.heap.size w V) ⟨(Row.new w _ [.int .i64 a, .int .i64 b, .int .i64 c, .int .i64 d, .int .i64 x, .int .i64 y]).alloc _, row2, ((Below.refl _ _).alloc (Nat.le_refl _) _).alloc (by simp) _⟩ ?_
  intro W1 s1
  have HS1 := Lib.hid s1
  clear s1
  go_upto_region 2 with (first
    | (refine wpList_load_row rfl 34 _ rfl (w.heap.size) rfl 34 #[.int .i64 a, .int .i64 b, .int .i64 c, .int .i64 d, .int .i64 x, .int .i64 y] (0, 0) _ HS1.out.1 Tryz.underlying34 rfl ?_ ?_; (kernel_rfl))
    | (go_at_call 38; refine (HC.out _).mono ?_; rintro e w2 ⟨rfl, hb2⟩; have HS2 : Hid (Row w2 w.heap.size 34 [.int .i64 a, .int .i64 b, .int .i64 c, .int .i64 d, .int .i64 x, .int .i64 y] ∧ Row w2 (w.heap.size + 1) 40 [.int .i64 0, .int .i64 0] ∧ Below w.heap.size w w2) := ⟨HS1.out.1.old hb2, HS1.out.2.1.old hb2, HS1.out.2.2.trans (hb2.mono HS1.out.2.2.size)⟩; clear hb2))
  go_wp2_with (first
    | (refine wpList_load_row rfl 34 _ rfl (w.heap.size) rfl 34 #[.int .i64 a, .int .i64 b, .int .i64 c, .int .i64 d, .int .i64 x, .int .i64 y] (0, 0) _ HS2.out.1 Tryz.underlying34 rfl ?_ ?_; (kernel_rfl))
    | (go_at_call 46; refine (HM.out _).mono ?_; rintro e w3 ⟨rfl, hb3⟩; have HS3 : Hid (Row w3 (w.heap.size + 1) 40 [.int .i64 0, .int .i64 0] ∧ Below w.heap.size w w3) := ⟨HS2.out.2.1.old hb3, HS2.out.2.2.trans (hb3.mono HS2.out.2.2.size)⟩; clear hb3)
    | (go_at_call 47; refine (HQ.out _).mono ?_; rintro e w4 ⟨rfl, hb4⟩; have HS4 : Hid (Row w4 (w.heap.size + 1) 40 [.int .i64 0, .int .i64 0] ∧ Below w.heap.size w w4) := ⟨HS3.out.1.old hb4, HS3.out.2.trans (hb4.mono HS3.out.2.size)⟩; clear hb4)
    | (refine wpList_store_row rfl 40 _ _ rfl (w.heap.size + 1) #[.int .i64 p, .int .i64 q] rfl rfl 40 _ HS4.out.1 ?_ ?_ ?_ ?_; (kernel_rfl); (rfl); (simp [Value.oneCell'])))
  refine bodyPost_ret (results_rt rfl _ _ (w.heap.size + 1) 40 #[.int .i64 p, .int .i64 q] (0, 0) _ rfl (HS4.out.1.setRow [.int .i64 p, .int .i64 q]) Tryz.underlying40 rfl (by kernel_rfl)) rfl ⟨rfl, Below.setRow HS4.out.2 (by omega) _⟩
theorem rowAt (W : World) (n : Nat) {t : TypeId} {L : List Value} (hn : W.heap.size = n) : Row (W.alloc (.cells L.toArray t)) n t L := by subst hn; exact Row.new W t L
theorem RowN.farN {w : World} {g h n : Nat} {t : TypeId} (hr : RowN w g t n) (hne : g ≠ h) (cs : Array Value) : RowN (w.setRow h cs) g t n := by
  obtain ⟨vs, h1, h2⟩ := hr
  exact ⟨vs, h1, h2.farRow hne cs⟩
theorem results_rrt {P : Program} {fn : Func} {p q t : Tmp} {ty tz : TypeId} (h : fn.results = #[.cell p ty, .cell q tz, .tmp t]) (tmps : Array Value) (w : World) (g g2 : Nat) (e e2 : TypeId) (cs cs2 : Array Value) (fr fr2 : Nat × Nat) (d d2 : TypeDesc)
    (hp : tmps.getD p undef = .pointer (some ⟨g, 0, none⟩)) (hg : w.heap[g]? = some (.cells cs e fr)) (hq : tmps.getD q undef = .pointer (some ⟨g2, 0, none⟩)) (hg2 : w.heap[g2]? = some (.cells cs2 e2 fr2))
    (hu : P.underlying ty = some d) (hd : (match d with | .struct _ | .array _ _ => true | _ => false) = true) (hi : (P.info? ty).map (·.size) = some cs.size)
    (hu2 : P.underlying tz = some d2) (hd2 : (match d2 with | .struct _ | .array _ _ => true | _ => false) = true) (hi2 : (P.info? tz).map (·.size) = some cs2.size) :
    (results fn tmps).run P w = .ok (.tuple #[.agg cs, .agg cs2, tmps.getD t undef]) w := by
  have hp' : tmps[p]?.getD undef = .pointer (some ⟨g, 0, none⟩) := by simpa using hp
  have hq' : tmps[q]?.getD undef = .pointer (some ⟨g2, 0, none⟩) := by simpa using hq
  simp [results, h, hp', hq', asAddr, run_loadVar_row w g e ty cs fr d hg hu hd hi, run_loadVar_row w g2 e2 tz cs2 fr2 d2 hg2 hu2 hd2 hi2]
set_option maxRecDepth 100000 in
set_option maxHeartbeats 1000000 in
theorem mulS_any (a b c d x y k l m n : Int) (w : World) (h1 : Gs a b) (h2 : Gs c d) (h3 : Gs x y) (h4 : Gs k l) (h5 : Gs m n) : Calls Tryz.prog 40 #[.agg #[.int .i64 a, .int .i64 b, .int .i64 c, .int .i64 d, .int .i64 x, .int .i64 y], .agg #[.int .i64 k, .int .i64 l], .agg #[.int .i64 m, .int .i64 n]] w fun e w' => e = .returned (.agg #[.int .i64 (a * k - b * l), .int .i64 (a * l + b * k), .int .i64 (c * m - d * n), .int .i64 (c * n + d * m), .int .i64 (x * m - y * n), .int .i64 (x * n + y * m)]) ∧ Below w.heap.size w w' := by
  obtain ⟨p1, hp1⟩ : ∃ p, p = a * k - b * l := ⟨_, rfl⟩
  obtain ⟨p2, hp2⟩ : ∃ p, p = a * l + b * k := ⟨_, rfl⟩
  obtain ⟨p3, hp3⟩ : ∃ p, p = c * m - d * n := ⟨_, rfl⟩
  obtain ⟨p4, hp4⟩ : ∃ p, p = c * n + d * m := ⟨_, rfl⟩
  obtain ⟨p5, hp5⟩ : ∃ p, p = x * m - y * n := ⟨_, rfl⟩
  obtain ⟨p6, hp6⟩ : ∃ p, p = x * n + y * m := ⟨_, rfl⟩
  have HT1 : Hid (∀ W, Calls Tryz.prog 100 #[.agg #[.int .i64 a, .int .i64 b], .agg #[.int .i64 k, .int .i64 l]] W fun e w' => e = .returned (.agg #[.int .i64 p1, .int .i64 p2]) ∧ Below W.heap.size W w') := fun W => by rw [hp1, hp2]; exact timesT_any a b k l W h1 h4
  have HT2 : Hid (∀ W, Calls Tryz.prog 100 #[.agg #[.int .i64 c, .int .i64 d], .agg #[.int .i64 m, .int .i64 n]] W fun e w' => e = .returned (.agg #[.int .i64 p3, .int .i64 p4]) ∧ Below W.heap.size W w') := fun W => by rw [hp3, hp4]; exact timesT_any c d m n W h2 h5
  have HT3 : Hid (∀ W, Calls Tryz.prog 100 #[.agg #[.int .i64 x, .int .i64 y], .agg #[.int .i64 m, .int .i64 n]] W fun e w' => e = .returned (.agg #[.int .i64 p5, .int .i64 p6]) ∧ Below W.heap.size W w') := fun W => by rw [hp5, hp6]; exact timesT_any x y m n W h3 h5
  rw [← hp1, ← hp2, ← hp3, ← hp4, ← hp5, ← hp6]
  clear hp1 hp2 hp3 hp4 hp5 hp6 h1 h2 h3 h4 h5
  go_enter Tryz.func40, Tryz.ntmps40
  go_upto_region 1 with fail
  refine genT (fun V => Row V (w.heap.size) 34 [.int .i64 a, .int .i64 b, .int .i64 c, .int .i64 d, .int .i64 x, .int .i64 y] ∧ Row V (w.heap.size + 1) 25 [.int .i64 k, .int .i64 l] ∧ Row V (w.heap.size + 1 + 1) 25 [.int .i64 m, .int .i64 n] ∧ Row V (w.heap.size + 1 + 1 + 1) 34 [.int .i64 0, .int .i64 0, .int .i64 0, .int .i64 0, .int .i64 0, .int .i64 0] ∧ Below w.heap.size w V) ⟨(Row.alloc (Row.alloc (Row.alloc (rowAt _ _ (by first | rfl | simp only [World.size_alloc])) _) _) _), (Row.alloc (Row.alloc (rowAt _ _ (by first | rfl | simp only [World.size_alloc])) _) _), (Row.alloc (rowAt _ _ (by first | rfl | simp only [World.size_alloc])) _), (rowAt _ _ (by first | rfl | simp only [World.size_alloc])), (((((Below.refl _ _).alloc (by first | exact Nat.le_refl _ | (simp only [World.size_alloc]; omega)) _).alloc (by first | exact Nat.le_refl _ | (simp only [World.size_alloc]; omega)) _).alloc (by first | exact Nat.le_refl _ | (simp only [World.size_alloc]; omega)) _).alloc (by first | exact Nat.le_refl _ | (simp only [World.size_alloc]; omega)) _)⟩ ?_
  intro W1 s1
  have HS1 : Hid (Row W1 (w.heap.size) 34 [.int .i64 a, .int .i64 b, .int .i64 c, .int .i64 d, .int .i64 x, .int .i64 y] ∧ Row W1 (w.heap.size + 1) 25 [.int .i64 k, .int .i64 l] ∧ Row W1 (w.heap.size + 1 + 1) 25 [.int .i64 m, .int .i64 n] ∧ RowN W1 (w.heap.size + 1 + 1 + 1) 34 6 ∧ Below w.heap.size w W1) := ⟨s1.1, s1.2.1, s1.2.2.1, ⟨_, rfl, s1.2.2.2.1⟩, s1.2.2.2.2⟩
  clear s1
  refine wp_region_held_drew (S := fun V => Row V (w.heap.size) 34 [.int .i64 a, .int .i64 b, .int .i64 c, .int .i64 d, .int .i64 x, .int .i64 y] ∧ Row V (w.heap.size + 1) 25 [.int .i64 k, .int .i64 l] ∧ Row V (w.heap.size + 1 + 1) 25 [.int .i64 m, .int .i64 n] ∧ RowN V (w.heap.size + 1 + 1 + 1) 34 6 ∧ Below w.heap.size w V) (by kernel_rfl) ?_ (fun hHeld => ?_)
  · exact ⟨(HS1.out.1).drew, (HS1.out.2.1).drew, (HS1.out.2.2.1).drew, (HS1.out.2.2.2.1).drew, (HS1.out.2.2.2.2).drew⟩
  refine wpAnyH_take (i := 0) (oi := ⟨some 7, _, _, _, _, _⟩) (v := ?_) rfl (by kernel_rfl) (by kernel_rfl) (by kernel_rfl) (fun _ _ _ h => h) (Or.inl ⟨by kernel_rfl, ?_⟩) hHeld ?_
  rotate_left
  · intro w1 hSw; (try dsimp only at hSw); go_simp <;> with_reducible rfl
  try simp only [Act.put, List.setIfInBounds_toArray, List.set_cons_zero, List.set_cons_succ]
  refine wpAnyH_take (i := 1) (oi := ⟨some 8, _, _, _, _, _⟩) (v := .agg #[.int .i64 a, .int .i64 b]) rfl (by kernel_rfl) (by kernel_rfl) (by kernel_rfl) (fun _ _ _ h => h) (Or.inl ⟨by kernel_rfl, fun V hV => ex_Gauss _ rfl (w.heap.size) 0 rfl ((hV.1).cell 0) ((hV.1).cell 1)⟩) hHeld ?_
  try simp only [Act.put, List.setIfInBounds_toArray, List.set_cons_zero, List.set_cons_succ]
  refine wpAnyH_take (i := 2) (oi := ⟨some 9, _, _, _, _, _⟩) (v := .agg #[.int .i64 k, .int .i64 l]) rfl (by kernel_rfl) (by kernel_rfl) (by kernel_rfl) (fun _ _ _ h => h) (Or.inl ⟨by kernel_rfl, fun V hV => ex_rowT 25 _ rfl (w.heap.size + 1) rfl 25 [.int .i64 k, .int .i64 l] _ Tryz.underlying25 rfl (by kernel_rfl) (hV.2.1)⟩) hHeld ?_
  try simp only [Act.put, List.setIfInBounds_toArray, List.set_cons_zero, List.set_cons_succ]
  refine wpAnyH_take (i := 4) (oi := ⟨some 11, _, _, _, _, _⟩) (v := ?_) rfl (by kernel_rfl) (by kernel_rfl) (by kernel_rfl) (fun _ _ _ h => h) (Or.inl ⟨by kernel_rfl, ?_⟩) hHeld ?_
  rotate_left
  · intro w1 hSw; (try dsimp only at hSw); go_simp <;> with_reducible rfl
  try simp only [Act.put, List.setIfInBounds_toArray, List.set_cons_zero, List.set_cons_succ]
  refine wpAnyH_take (i := 5) (oi := ⟨some 12, _, _, _, _, _⟩) (v := .agg #[.int .i64 c, .int .i64 d]) rfl (by kernel_rfl) (by kernel_rfl) (by kernel_rfl) (fun _ _ _ h => h) (Or.inl ⟨by kernel_rfl, fun V hV => ex_Gauss _ rfl (w.heap.size) 2 rfl ((hV.1).cell 2) ((hV.1).cell 3)⟩) hHeld ?_
  try simp only [Act.put, List.setIfInBounds_toArray, List.set_cons_zero, List.set_cons_succ]
  refine wpAnyH_take (i := 6) (oi := ⟨some 13, _, _, _, _, _⟩) (v := .agg #[.int .i64 m, .int .i64 n]) rfl (by kernel_rfl) (by kernel_rfl) (by kernel_rfl) (fun _ _ _ h => h) (Or.inl ⟨by kernel_rfl, fun V hV => ex_rowT 25 _ rfl (w.heap.size + 1 + 1) rfl 25 [.int .i64 m, .int .i64 n] _ Tryz.underlying25 rfl (by kernel_rfl) (hV.2.2.1)⟩) hHeld ?_
  try simp only [Act.put, List.setIfInBounds_toArray, List.set_cons_zero, List.set_cons_succ]
  refine wpAnyH_take (i := 8) (oi := ⟨some 15, _, _, _, _, _⟩) (v := ?_) rfl (by kernel_rfl) (by kernel_rfl) (by kernel_rfl) (fun _ _ _ h => h) (Or.inl ⟨by kernel_rfl, ?_⟩) hHeld ?_
  rotate_left
  · intro w1 hSw; (try dsimp only at hSw); go_simp <;> with_reducible rfl
  try simp only [Act.put, List.setIfInBounds_toArray, List.set_cons_zero, List.set_cons_succ]
  refine wpAnyH_take (i := 9) (oi := ⟨some 16, _, _, _, _, _⟩) (v := .agg #[.int .i64 x, .int .i64 y]) rfl (by kernel_rfl) (by kernel_rfl) (by kernel_rfl) (fun _ _ _ h => h) (Or.inl ⟨by kernel_rfl, fun V hV => ex_Gauss _ rfl (w.heap.size) 4 rfl ((hV.1).cell 4) ((hV.1).cell 5)⟩) hHeld ?_
  try simp only [Act.put, List.setIfInBounds_toArray, List.set_cons_zero, List.set_cons_succ]
  refine wpAnyH_take (i := 10) (oi := ⟨some 17, _, _, _, _, _⟩) (v := .agg #[.int .i64 m, .int .i64 n]) rfl (by kernel_rfl) (by kernel_rfl) (by kernel_rfl) (fun _ _ _ h => h) (Or.inl ⟨by kernel_rfl, fun V hV => ex_rowT 25 _ rfl (w.heap.size + 1 + 1) rfl 25 [.int .i64 m, .int .i64 n] _ Tryz.underlying25 rfl (by kernel_rfl) (hV.2.2.1)⟩) hHeld ?_
  try simp only [Act.put, List.setIfInBounds_toArray, List.set_cons_zero, List.set_cons_succ]
  refine wpAnyH_ready (rs := [3]) (by kernel_rfl) (by simp) ?_
  refine AllReadyH.cons rfl (fun K hK => ?_) AllReadyH.nil
  go_simp
  go_at_call 100
  refine (HT1.out _).mono ?_
  rintro e v3 ⟨rfl, hb3⟩
  try go_simp
  refine hK.out _ _ ?_ (fun hHeld => ?_)
  · exact ⟨(hHeld.1).old hb3, (hHeld.2.1).old hb3, (hHeld.2.2.1).old hb3, (hHeld.2.2.2.1).old hb3, (hHeld.2.2.2.2).trans ((hb3).mono (hHeld.2.2.2.2).size)⟩
  clear hK K
  try simp only [Act.put, List.setIfInBounds_toArray, List.set_cons_zero, List.set_cons_succ]
  refine wpAnyH_ready (rs := [7]) (by kernel_rfl) (by simp) ?_
  refine AllReadyH.cons rfl (fun K hK => ?_) AllReadyH.nil
  go_simp
  go_at_call 100
  refine (HT2.out _).mono ?_
  rintro e v7 ⟨rfl, hb7⟩
  try go_simp
  refine hK.out _ _ ?_ (fun hHeld => ?_)
  · exact ⟨(hHeld.1).old hb7, (hHeld.2.1).old hb7, (hHeld.2.2.1).old hb7, (hHeld.2.2.2.1).old hb7, (hHeld.2.2.2.2).trans ((hb7).mono (hHeld.2.2.2.2).size)⟩
  clear hK K
  try simp only [Act.put, List.setIfInBounds_toArray, List.set_cons_zero, List.set_cons_succ]
  refine wpAnyH_ready (rs := [11]) (by kernel_rfl) (by simp) ?_
  refine AllReadyH.cons rfl (fun K hK => ?_) AllReadyH.nil
  go_simp
  go_at_call 100
  refine (HT3.out _).mono ?_
  rintro e v11 ⟨rfl, hb11⟩
  try go_simp
  refine hK.out _ _ ?_ (fun hHeld => ?_)
  · exact ⟨(hHeld.1).old hb11, (hHeld.2.1).old hb11, (hHeld.2.2.1).old hb11, (hHeld.2.2.2.1).old hb11, (hHeld.2.2.2.2).trans ((hb11).mono (hHeld.2.2.2.2).size)⟩
  clear hK K
  try simp only [Act.put, List.setIfInBounds_toArray, List.set_cons_zero, List.set_cons_succ]
  refine wpAnyH_take (i := 12) (oi := ⟨some 19, _, _, _, _, _⟩) (v := ?_) rfl (by kernel_rfl) (by kernel_rfl) (by kernel_rfl) (fun _ _ _ h => h) (Or.inl ⟨by kernel_rfl, ?_⟩) hHeld ?_
  rotate_left
  · intro w1 hSw; (try dsimp only at hSw); go_simp <;> with_reducible rfl
  try simp only [Act.put, List.setIfInBounds_toArray, List.set_cons_zero, List.set_cons_succ]
  refine wpAnyH_ready (rs := [13]) (by kernel_rfl) (by simp) ?_
  refine AllReadyH.cons rfl (fun K hK => ?_) AllReadyH.nil
  obtain ⟨vs, hvl, hvr⟩ := (hHeld.2.2.2.1)
  have hLast := hHeld
  refine step_store_row rfl 34 _ _ rfl (w.heap.size + 1 + 1 + 1) [.int .i64 p1, .int .i64 p2, .int .i64 p3, .int .i64 p4, .int .i64 p5, .int .i64 p6] rfl rfl 34 vs hvr (by kernel_rfl) hvl (by simp [Value.oneCell']) ?_
  refine hK.out _ _ ?_ (fun hHeld => ?_)
  · exact ⟨(hHeld.1).farRow (by omega) _, (hHeld.2.1).farRow (by omega) _, (hHeld.2.2.1).farRow (by omega) _, ⟨_, rfl, hvr.setRow _⟩, Below.setRow (hHeld.2.2.2.2) (by omega) _⟩
  clear hK K
  try simp only [Act.put, List.setIfInBounds_toArray, List.set_cons_zero, List.set_cons_succ]
  refine wpAnyH_done (by kernel_rfl) ?_ _
  go_wp2_with fail
  refine bodyPost_ret (results_rowA rfl _ _ (w.heap.size + 1 + 1 + 1) 34 #[.int .i64 p1, .int .i64 p2, .int .i64 p3, .int .i64 p4, .int .i64 p5, .int .i64 p6] (0, 0) _ rfl (hvr.setRow [.int .i64 p1, .int .i64 p2, .int .i64 p3, .int .i64 p4, .int .i64 p5, .int .i64 p6]) Tryz.underlying34 rfl (by kernel_rfl)) rfl ⟨rfl, Below.setRow hLast.2.2.2.2 (by omega) _⟩
def bigE (e : Int) : Int := if e = 3 then 4 else e
set_option maxRecDepth 100000 in
set_option maxHeartbeats 1000000 in
theorem checkResult_any (a b c d x y : Int) (w : World) : Calls Tryz.prog 101 #[.agg #[.int .i64 a, .int .i64 b, .int .i64 c, .int .i64 d, .int .i64 x, .int .i64 y]] w fun e w' => e = .returned (.int .i64 (bigE (sigE a b c d x y))) ∧ Below w.heap.size w w' := by
  obtain ⟨E, hE⟩ : ∃ E, E = sigE a b c d x y := ⟨_, rfl⟩
  rw [← hE]
  have HC : Hid (∀ W, Calls Tryz.prog 38 #[.agg #[.int .i64 a, .int .i64 b, .int .i64 c, .int .i64 d, .int .i64 x, .int .i64 y]] W fun e w' => e = .returned (.int .i64 E) ∧ Below W.heap.size W w') := fun W => by rw [hE]; exact checkSignal_any a b c d x y W
  clear hE
  by_cases h3 : E = 3
  · subst h3
    go_enter Tryz.func101, Tryz.ntmps101
    go_upto_region 1 with fail
    refine genT (fun V => Row V (w.heap.size) 34 [.int .i64 a, .int .i64 b, .int .i64 c, .int .i64 d, .int .i64 x, .int .i64 y] ∧ Below w.heap.size w V) ⟨(rowAt _ _ (by first | rfl | simp only [World.size_alloc])), ((Below.refl _ _).alloc (by first | exact Nat.le_refl _ | (simp only [World.size_alloc]; omega)) _)⟩ ?_
    intro W1 s1
    have HS1 := Lib.hid s1
    clear s1
    go_wp2_with (first | (refine wpList_load_row rfl 34 _ rfl (w.heap.size) rfl 34 #[.int .i64 a, .int .i64 b, .int .i64 c, .int .i64 d, .int .i64 x, .int .i64 y] (0, 0) _ HS1.out.1 Tryz.underlying34 rfl ?_ ?_; (kernel_rfl)) | (go_at_call 38; refine (HC.out _).mono ?_; rintro e w2 ⟨rfl, hb_w2⟩; have HS2 : Hid (Row w2 (w.heap.size) 34 [.int .i64 a, .int .i64 b, .int .i64 c, .int .i64 d, .int .i64 x, .int .i64 y] ∧ Below w.heap.size w w2) := ⟨(HS1.out.1).old hb_w2, (HS1.out.2).trans (hb_w2.mono (HS1.out.2).size)⟩; clear hb_w2))
    go_ret
    exact ⟨rfl, HS2.out.2⟩
  · have hne : (E == 3) = false := by simpa using h3
    have hbig : bigE E = E := if_neg h3
    rw [hbig]
    clear h3 hbig
    go_enter Tryz.func101, Tryz.ntmps101
    go_upto_region 1 with fail
    refine genT (fun V => Row V (w.heap.size) 34 [.int .i64 a, .int .i64 b, .int .i64 c, .int .i64 d, .int .i64 x, .int .i64 y] ∧ Below w.heap.size w V) ⟨(rowAt _ _ (by first | rfl | simp only [World.size_alloc])), ((Below.refl _ _).alloc (by first | exact Nat.le_refl _ | (simp only [World.size_alloc]; omega)) _)⟩ ?_
    intro W1 s1
    have HS1 := Lib.hid s1
    clear s1
    go_wp2_with (first | (refine wpList_load_row rfl 34 _ rfl (w.heap.size) rfl 34 #[.int .i64 a, .int .i64 b, .int .i64 c, .int .i64 d, .int .i64 x, .int .i64 y] (0, 0) _ HS1.out.1 Tryz.underlying34 rfl ?_ ?_; (kernel_rfl)) | (go_at_call 38; refine (HC.out _).mono ?_; rintro e w2 ⟨rfl, hb_w2⟩; have HS2 : Hid (Row w2 (w.heap.size) 34 [.int .i64 a, .int .i64 b, .int .i64 c, .int .i64 d, .int .i64 x, .int .i64 y] ∧ Below w.heap.size w w2) := ⟨(HS1.out.1).old hb_w2, (HS1.out.2).trans (hb_w2.mono (HS1.out.2).size)⟩; clear hb_w2))
    go_ret
    exact ⟨rfl, HS2.out.2⟩
set_option maxRecDepth 100000 in
set_option maxHeartbeats 1000000 in
theorem result_bad (a b c d x y E : Int) (w : World) (hE : bigE (sigE a b c d x y) = E) (h0 : E ≠ 0) : Calls Tryz.prog 42 #[.agg #[.int .i64 a, .int .i64 b, .int .i64 c, .int .i64 d, .int .i64 x, .int .i64 y]] w fun e w' => e = .returned (.tuple #[.agg #[.int .i64 0, .int .i64 0, .int .i64 0, .int .i64 0, .int .i64 0, .int .i64 0], .int .i64 E]) ∧ Below w.heap.size w w' := by
  have HC : Hid (∀ W, Calls Tryz.prog 101 #[.agg #[.int .i64 a, .int .i64 b, .int .i64 c, .int .i64 d, .int .i64 x, .int .i64 y]] W fun e w' => e = .returned (.int .i64 E) ∧ Below W.heap.size W w') := fun W => by rw [← hE]; exact checkResult_any a b c d x y W
  have hne : (E == 0) = false := by simpa using h0
  have hne2 : (E != 0) = true := by simpa using h0
  clear hE h0
  go_enter Tryz.func42, Tryz.ntmps42
  go_upto_region 1 with fail
  refine genT (fun V => Row V (w.heap.size) 34 [.int .i64 a, .int .i64 b, .int .i64 c, .int .i64 d, .int .i64 x, .int .i64 y] ∧ Row V (w.heap.size + 1) 34 [.int .i64 0, .int .i64 0, .int .i64 0, .int .i64 0, .int .i64 0, .int .i64 0] ∧ Below w.heap.size w V) ⟨(Row.alloc (rowAt _ _ (by first | rfl | simp only [World.size_alloc])) _), (rowAt _ _ (by first | rfl | simp only [World.size_alloc])), (((Below.refl _ _).alloc (by first | exact Nat.le_refl _ | (simp only [World.size_alloc]; omega)) _).alloc (by first | exact Nat.le_refl _ | (simp only [World.size_alloc]; omega)) _)⟩ ?_
  intro W1 s1
  have HS1 := Lib.hid s1
  clear s1
  go_wp2_with (first | (refine wpList_load_row rfl 34 _ rfl (w.heap.size) rfl 34 #[.int .i64 a, .int .i64 b, .int .i64 c, .int .i64 d, .int .i64 x, .int .i64 y] (0, 0) _ HS1.out.1 Tryz.underlying34 rfl ?_ ?_; (kernel_rfl)) | (go_at_call 101; refine (HC.out _).mono ?_; rintro e w2 ⟨rfl, hb_w2⟩; have HS2 : Hid (Row w2 (w.heap.size) 34 [.int .i64 a, .int .i64 b, .int .i64 c, .int .i64 d, .int .i64 x, .int .i64 y] ∧ Row w2 (w.heap.size + 1) 34 [.int .i64 0, .int .i64 0, .int .i64 0, .int .i64 0, .int .i64 0, .int .i64 0] ∧ Below w.heap.size w w2) := ⟨(HS1.out.1).old hb_w2, (HS1.out.2.1).old hb_w2, (HS1.out.2.2).trans (hb_w2.mono (HS1.out.2.2).size)⟩; clear hb_w2) | (refine wpList_store_row rfl 34 _ _ rfl (w.heap.size + 1) #[.int .i64 0, .int .i64 0, .int .i64 0, .int .i64 0, .int .i64 0, .int .i64 0] rfl rfl 34 _ HS2.out.2.1 ?_ ?_ ?_ ?_; (kernel_rfl); (rfl); (simp [Value.oneCell'])))
  refine bodyPost_ret (results_rt rfl _ _ (w.heap.size + 1) 34 #[.int .i64 0, .int .i64 0, .int .i64 0, .int .i64 0, .int .i64 0, .int .i64 0] (0, 0) _ rfl (HS2.out.2.1.setRow [.int .i64 0, .int .i64 0, .int .i64 0, .int .i64 0, .int .i64 0, .int .i64 0]) Tryz.underlying34 rfl (by kernel_rfl)) rfl ⟨rfl, Below.setRow HS2.out.2.2 (by omega) _⟩
set_option maxRecDepth 100000 in
set_option maxHeartbeats 1000000 in
theorem result_ok (a b c d x y : Int) (w : World) (hE : sigE a b c d x y = 0) : Calls Tryz.prog 42 #[.agg #[.int .i64 a, .int .i64 b, .int .i64 c, .int .i64 d, .int .i64 x, .int .i64 y]] w fun e w' => e = .returned (.tuple #[.agg #[.int .i64 a, .int .i64 b, .int .i64 c, .int .i64 d, .int .i64 x, .int .i64 y], .int .i64 0]) ∧ Below w.heap.size w w' := by
  have HC : Hid (∀ W, Calls Tryz.prog 101 #[.agg #[.int .i64 a, .int .i64 b, .int .i64 c, .int .i64 d, .int .i64 x, .int .i64 y]] W fun e w' => e = .returned (.int .i64 0) ∧ Below W.heap.size W w') := fun W => by have h := checkResult_any a b c d x y W; rw [hE] at h; exact h
  clear hE
  go_enter Tryz.func42, Tryz.ntmps42
  go_upto_region 1 with fail
  refine genT (fun V => Row V (w.heap.size) 34 [.int .i64 a, .int .i64 b, .int .i64 c, .int .i64 d, .int .i64 x, .int .i64 y] ∧ Row V (w.heap.size + 1) 34 [.int .i64 0, .int .i64 0, .int .i64 0, .int .i64 0, .int .i64 0, .int .i64 0] ∧ Below w.heap.size w V) ⟨(Row.alloc (rowAt _ _ (by first | rfl | simp only [World.size_alloc])) _), (rowAt _ _ (by first | rfl | simp only [World.size_alloc])), (((Below.refl _ _).alloc (by first | exact Nat.le_refl _ | (simp only [World.size_alloc]; omega)) _).alloc (by first | exact Nat.le_refl _ | (simp only [World.size_alloc]; omega)) _)⟩ ?_
  intro W1 s1
  have HS1 := Lib.hid s1
  clear s1
  go_wp2_with (first | (refine wpList_load_row rfl 34 _ rfl (w.heap.size) rfl 34 #[.int .i64 a, .int .i64 b, .int .i64 c, .int .i64 d, .int .i64 x, .int .i64 y] (0, 0) _ HS2.out.1 Tryz.underlying34 rfl ?_ ?_; (kernel_rfl)) | (refine wpList_load_row rfl 34 _ rfl (w.heap.size) rfl 34 #[.int .i64 a, .int .i64 b, .int .i64 c, .int .i64 d, .int .i64 x, .int .i64 y] (0, 0) _ HS1.out.1 Tryz.underlying34 rfl ?_ ?_; (kernel_rfl)) | (go_at_call 101; refine (HC.out _).mono ?_; rintro e w2 ⟨rfl, hb_w2⟩; have HS2 : Hid (Row w2 (w.heap.size) 34 [.int .i64 a, .int .i64 b, .int .i64 c, .int .i64 d, .int .i64 x, .int .i64 y] ∧ Row w2 (w.heap.size + 1) 34 [.int .i64 0, .int .i64 0, .int .i64 0, .int .i64 0, .int .i64 0, .int .i64 0] ∧ Below w.heap.size w w2) := ⟨(HS1.out.1).old hb_w2, (HS1.out.2.1).old hb_w2, (HS1.out.2.2).trans (hb_w2.mono (HS1.out.2.2).size)⟩; clear hb_w2) | (refine wpList_store_row rfl 34 _ _ rfl (w.heap.size + 1) #[.int .i64 a, .int .i64 b, .int .i64 c, .int .i64 d, .int .i64 x, .int .i64 y] rfl rfl 34 _ HS2.out.2.1 ?_ ?_ ?_ ?_; (kernel_rfl); (rfl); (simp [Value.oneCell'])))
  refine bodyPost_ret (results_rt rfl _ _ (w.heap.size + 1) 34 #[.int .i64 a, .int .i64 b, .int .i64 c, .int .i64 d, .int .i64 x, .int .i64 y] (0, 0) _ rfl (HS2.out.2.1.setRow [.int .i64 a, .int .i64 b, .int .i64 c, .int .i64 d, .int .i64 x, .int .i64 y]) Tryz.underlying34 rfl (by kernel_rfl)) rfl ⟨rfl, Below.setRow HS2.out.2.2 (by omega) _⟩
def Tn (w : World) : Prop := ∀ j v, [(1 : Int), 0, 0, 1, -1, 0, 0, -1][j]? = some v → w.cell? ⟨0, j, none⟩ = some (.int .i64 v)
theorem Tn.old {w w' : World} (h : Tn w) (hb : Below w.heap.size w w') : Tn w' := fun j v hv => keepT (h j v hv) hb
theorem Tn.drew {w : World} (h : Tn w) : Tn w.drew := h
def iR (k : Int) : Int := if k = 0 then 1 else if k = 2 then -1 else 0
def iI (k : Int) : Int := if k = 1 then 1 else if k = 3 then -1 else 0
set_option maxRecDepth 100000 in
set_option maxHeartbeats 1000000 in
theorem checkTurns_any (k : Int) (w : World) : Calls Tryz.prog 39 #[.int .i64 k] w fun e w' => e = .returned (.int .i64 (whenI (rangeB k 0 3) 3)) ∧ w = w' := by
  go_enter Tryz.func39, Tryz.ntmps39
  go_wp2_with (go_at_call 34; refine (between_any _ _ _ _).mono ?_; rintro e w' ⟨rfl, rfl⟩)
  go_ret
  exact ⟨rfl, rfl⟩
set_option maxRecDepth 100000 in
set_option maxHeartbeats 1000000 in
theorem turn_any (k : Int) (w : World) (hT0 : Tn w) (hk : rangeB k 0 3 = false) : Calls Tryz.prog 41 #[.int .i64 k] w fun e w' => e = .returned (.agg #[.int .i64 (iR k), .int .i64 (iI k)]) ∧ Below w.heap.size w w' := by
  have hT := Lib.hid hT0
  clear hT0
  unfold rangeB at hk
  simp only [Bool.or_eq_false_iff, decide_eq_false_iff_not] at hk
  rcases (show k = 0 ∨ k = 1 ∨ k = 2 ∨ k = 3 by omega) with rfl | rfl | rfl | rfl
  · have c0 := hT.out 0 (1) rfl; have c1 := hT.out 1 (0) rfl
    have hbt : bits BinOp.and IntKind.i64 0 3 = 0 := by first | rfl | decide
    clear hT
    go_enter Tryz.func41, Tryz.ntmps41
    go_upto_region 1 with fail
    refine genT (fun V => Row V (w.heap.size) 25 [.int .i64 0, .int .i64 0] ∧ Below w.heap.size w V) ⟨(rowAt _ _ (by first | rfl | simp only [World.size_alloc])), ((Below.refl _ _).alloc (by first | exact Nat.le_refl _ | (simp only [World.size_alloc]; omega)) _)⟩ ?_
    intro W1 s1
    have HS1 := Lib.hid s1
    clear s1
    have c0' := keepT c0 HS1.out.2; have c1' := keepT c1 HS1.out.2
    go_wp2_with (refine wpList_store_row rfl 25 _ _ rfl (w.heap.size) #[.int .i64 (1), .int .i64 (0)] rfl rfl 25 _ HS1.out.1 ?_ ?_ ?_ ?_; (kernel_rfl); (rfl); (simp [Value.oneCell']))
    refine bodyPost_ret (results_rowA rfl _ _ (w.heap.size) 25 #[.int .i64 (1), .int .i64 (0)] (0, 0) _ rfl (HS1.out.1.setRow [.int .i64 (1), .int .i64 (0)]) Tryz.underlying25 rfl (by kernel_rfl)) rfl ⟨rfl, Below.setRow HS1.out.2 (by omega) _⟩
  · have c0 := hT.out 2 (0) rfl; have c1 := hT.out 3 (1) rfl
    have hbt : bits BinOp.and IntKind.i64 1 3 = 1 := by first | rfl | decide
    clear hT
    go_enter Tryz.func41, Tryz.ntmps41
    go_upto_region 1 with fail
    refine genT (fun V => Row V (w.heap.size) 25 [.int .i64 0, .int .i64 0] ∧ Below w.heap.size w V) ⟨(rowAt _ _ (by first | rfl | simp only [World.size_alloc])), ((Below.refl _ _).alloc (by first | exact Nat.le_refl _ | (simp only [World.size_alloc]; omega)) _)⟩ ?_
    intro W1 s1
    have HS1 := Lib.hid s1
    clear s1
    have c0' := keepT c0 HS1.out.2; have c1' := keepT c1 HS1.out.2
    go_wp2_with (refine wpList_store_row rfl 25 _ _ rfl (w.heap.size) #[.int .i64 (0), .int .i64 (1)] rfl rfl 25 _ HS1.out.1 ?_ ?_ ?_ ?_; (kernel_rfl); (rfl); (simp [Value.oneCell']))
    refine bodyPost_ret (results_rowA rfl _ _ (w.heap.size) 25 #[.int .i64 (0), .int .i64 (1)] (0, 0) _ rfl (HS1.out.1.setRow [.int .i64 (0), .int .i64 (1)]) Tryz.underlying25 rfl (by kernel_rfl)) rfl ⟨rfl, Below.setRow HS1.out.2 (by omega) _⟩
  · have c0 := hT.out 4 (-1) rfl; have c1 := hT.out 5 (0) rfl
    have hbt : bits BinOp.and IntKind.i64 2 3 = 2 := by first | rfl | decide
    clear hT
    go_enter Tryz.func41, Tryz.ntmps41
    go_upto_region 1 with fail
    refine genT (fun V => Row V (w.heap.size) 25 [.int .i64 0, .int .i64 0] ∧ Below w.heap.size w V) ⟨(rowAt _ _ (by first | rfl | simp only [World.size_alloc])), ((Below.refl _ _).alloc (by first | exact Nat.le_refl _ | (simp only [World.size_alloc]; omega)) _)⟩ ?_
    intro W1 s1
    have HS1 := Lib.hid s1
    clear s1
    have c0' := keepT c0 HS1.out.2; have c1' := keepT c1 HS1.out.2
    go_wp2_with (refine wpList_store_row rfl 25 _ _ rfl (w.heap.size) #[.int .i64 (-1), .int .i64 (0)] rfl rfl 25 _ HS1.out.1 ?_ ?_ ?_ ?_; (kernel_rfl); (rfl); (simp [Value.oneCell']))
    refine bodyPost_ret (results_rowA rfl _ _ (w.heap.size) 25 #[.int .i64 (-1), .int .i64 (0)] (0, 0) _ rfl (HS1.out.1.setRow [.int .i64 (-1), .int .i64 (0)]) Tryz.underlying25 rfl (by kernel_rfl)) rfl ⟨rfl, Below.setRow HS1.out.2 (by omega) _⟩
  · have c0 := hT.out 6 (0) rfl; have c1 := hT.out 7 (-1) rfl
    have hbt : bits BinOp.and IntKind.i64 3 3 = 3 := by first | rfl | decide
    clear hT
    go_enter Tryz.func41, Tryz.ntmps41
    go_upto_region 1 with fail
    refine genT (fun V => Row V (w.heap.size) 25 [.int .i64 0, .int .i64 0] ∧ Below w.heap.size w V) ⟨(rowAt _ _ (by first | rfl | simp only [World.size_alloc])), ((Below.refl _ _).alloc (by first | exact Nat.le_refl _ | (simp only [World.size_alloc]; omega)) _)⟩ ?_
    intro W1 s1
    have HS1 := Lib.hid s1
    clear s1
    have c0' := keepT c0 HS1.out.2; have c1' := keepT c1 HS1.out.2
    go_wp2_with (refine wpList_store_row rfl 25 _ _ rfl (w.heap.size) #[.int .i64 (0), .int .i64 (-1)] rfl rfl 25 _ HS1.out.1 ?_ ?_ ?_ ?_; (kernel_rfl); (rfl); (simp [Value.oneCell']))
    refine bodyPost_ret (results_rowA rfl _ _ (w.heap.size) 25 #[.int .i64 (0), .int .i64 (-1)] (0, 0) _ rfl (HS1.out.1.setRow [.int .i64 (0), .int .i64 (-1)]) Tryz.underlying25 rfl (by kernel_rfl)) rfl ⟨rfl, Below.setRow HS1.out.2 (by omega) _⟩
end Go.Proofs.YtlflfieknibgmaaGreatDoor
