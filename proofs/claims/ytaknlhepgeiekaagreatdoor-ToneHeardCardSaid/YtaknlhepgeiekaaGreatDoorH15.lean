import Derived.Test.YtaknlhepgeiekaaGreatDoorH14
namespace Go.Proofs.YtaknlhepgeiekaaGreatDoor
set_option linter.all false
open Go.RowKit Go.Fl
set_option maxRecDepth 100000
set_option maxHeartbeats 1000000
def nEq : Value → Value → Bool
 | .int _ a, .int _ b => a == b
 | _, _ => false
theorem isAggI (w : World) : (isAgg 3).run Tryz.prog w = .ok false w := by kernel_rfl
theorem eqInt2 (a b c d : Int) (w : World) : (Op.equalIn 10000 212 (.agg #[.int .i64 a, .int .i64 b]) (.agg #[.int .i64 c, .int .i64 d])).run Tryz.prog w = .ok (a == c && b == d) w := by
 obtain ⟨i, hi, _⟩ := Option.map_eq_some_iff.1 (show (Tryz.prog.info? 3).map (·.size) = some 1 by kernel_rfl)
 have h := run_eqArray (P := Tryz.prog) w 9999 212 3 2 i nEq [.int .i64 a, .int .i64 b] [.int .i64 c, .int .i64 d] Tryz.underlying212 hi (by kernel_rfl) (part_scalar w _ isAggI) ?_ rfl rfl
 · rw [show all2 nEq [.int .i64 a, .int .i64 b] [.int .i64 c, .int .i64 d] = (a == c && b == d) by simp [all2, nEq]] at h
   exact h
 intro j hj
 match j, hj with
 | 0, _ => exact run_equalIn_int w 9998 _ .i64 .i64 _ _ Tryz.underlying3
 | 1, _ => exact run_equalIn_int w 9998 _ .i64 .i64 _ _ Tryz.underlying3
theorem neqInt2 (a b c d : Int) (w : World) : (binOp .neq 212 (.agg #[.int .i64 a, .int .i64 b]) (.agg #[.int .i64 c, .int .i64 d])).run Tryz.prog w = .ok (.bool (!(a == c && b == d))) w := by
 rw [run_neq_struct, eqInt2]; rfl
theorem checkInterval_any (lo hi low high : Int) (w : World) : Calls Tryz.prog 88 #[.agg #[.int .i64 lo, .int .i64 hi], .int .i64 low, .int .i64 high] w fun e w' => e = .returned (.int .i64 (ivE lo hi low high)) ∧ Below w.heap.size w w' := by
 obtain ⟨mn, hmn⟩ : ∃ mn, mn = (if hi < lo then hi else lo) := ⟨_, rfl⟩
 obtain ⟨mx, hmx⟩ : ∃ mx, mx = (if lo < hi then hi else lo) := ⟨_, rfl⟩
 have hz : ∀ w, (binOp .neq 212 (.agg #[.int .i64 lo, .int .i64 hi]) (.agg #[.int .i64 mn, .int .i64 mx])).run Tryz.prog w = .ok (.bool (decide (hi < lo))) w := fun w => by
  rw [neqInt2]
  have e : (!(lo == mn && hi == mx)) = decide (hi < lo) := by
   by_cases h : hi < lo
   · have h1 : (lo == mn) = false := by simpa using (by omega : lo ≠ mn)
     simp [h, h1]
   · have h1 : (lo == mn) = true := by simpa using (by omega : lo = mn)
     have h2 : (hi == mx) = true := by simpa using (by omega : hi = mx)
     simp [h, h1, h2]
  rw [e]
 unfold ivE
 obtain ⟨zb, hzb⟩ : ∃ zb, zb = decide (hi < lo) := ⟨_, rfl⟩
 rw [← hzb] at hz ⊢
 clear hzb
 go_enter Tryz.func88, Tryz.ntmps88
 go_upto_region 1 with fail
 refine genT (fun V => Row V (w.heap.size) 85 [.int .i64 lo, .int .i64 hi] ∧ Below w.heap.size w V) ⟨(rowAt _ _ (by first | rfl | simp only [World.size_alloc])), ((Below.refl _ _).alloc (by first | exact Nat.le_refl _ | (simp only [World.size_alloc]; omega)) _)⟩ ?_
 intro W1 s1
 have HS1 := Lib.hid s1
 clear s1
 have d0 := HS1.out.1.cell 0; have d1 := HS1.out.1.cell 1
 simp only [List.getElem?_cons_succ, List.getElem?_cons_zero] at d0 d1
 go_upto_region 2 with (first
  | (refine wpList_store_row rfl 212 _ _ rfl (W1.heap.size) #[.int .i64 lo, .int .i64 hi] rfl rfl 212 _ (Row.new W1 212 [.int .i64 0, .int .i64 0]) ?_ ?_ ?_ ?_; (kernel_rfl); (rfl); (simp [Value.oneCell'])))
 have hbn : Below W1.heap.size W1 ((W1.alloc (.cells #[.int .i64 0, .int .i64 0] 212)).setRow W1.heap.size #[.int .i64 lo, .int .i64 hi]) := Below.setRow ((Below.refl _ _).alloc (Nat.le_refl _) _) (Nat.le_refl _) _
 refine genT (fun V => Row V (w.heap.size) 85 [.int .i64 lo, .int .i64 hi] ∧ Row V (W1.heap.size) 212 [.int .i64 lo, .int .i64 hi] ∧ Below w.heap.size w V) ⟨HS1.out.1.old hbn, (Row.new W1 212 [.int .i64 0, .int .i64 0]).setRow _, HS1.out.2.trans (hbn.mono HS1.out.2.size)⟩ ?_
 intro W2 s2
 have HS2 := Lib.hid s2
 clear s2 hbn d0 d1
 have d0 := HS2.out.1.cell 0; have d1 := HS2.out.1.cell 1
 simp only [List.getElem?_cons_succ, List.getElem?_cons_zero] at d0 d1
 go_upto_region 3 with (first
  | (refine wpList_store_row rfl 212 _ _ rfl (W2.heap.size) #[.int .i64 (if hi < lo then hi else lo), .int .i64 (if lo < hi then hi else lo)] rfl rfl 212 _ (Row.new W2 212 [.int .i64 0, .int .i64 0]) ?_ ?_ ?_ ?_; (kernel_rfl); (rfl); (simp [Value.oneCell'])))
 rw [← hmn, ← hmx]
 clear hmn hmx d0 d1
 have hbn : Below W2.heap.size W2 ((W2.alloc (.cells #[.int .i64 0, .int .i64 0] 212)).setRow W2.heap.size #[.int .i64 mn, .int .i64 mx]) := Below.setRow ((Below.refl _ _).alloc (Nat.le_refl _) _) (Nat.le_refl _) _
 refine genT (fun V => Row V (w.heap.size) 85 [.int .i64 lo, .int .i64 hi] ∧ Row V (W1.heap.size) 212 [.int .i64 lo, .int .i64 hi] ∧ Row V (W2.heap.size) 212 [.int .i64 mn, .int .i64 mx] ∧ Below w.heap.size w V) ⟨HS2.out.1.old hbn, HS2.out.2.1.old hbn, (Row.new W2 212 [.int .i64 0, .int .i64 0]).setRow _, HS2.out.2.2.trans (hbn.mono HS2.out.2.2.size)⟩ ?_
 intro W3 s3
 have HS3 := Lib.hid s3
 clear s3 hbn
 refine wp_region_held_drew (S := fun V => Row V (w.heap.size) 85 [.int .i64 lo, .int .i64 hi] ∧ Row V (W1.heap.size) 212 [.int .i64 lo, .int .i64 hi] ∧ Row V (W2.heap.size) 212 [.int .i64 mn, .int .i64 mx] ∧ Below w.heap.size w V) (by kernel_rfl) ?_ (fun hHeld => ?_)
 · exact ⟨(HS3.out.1).drew, (HS3.out.2.1).drew, (HS3.out.2.2.1).drew, (HS3.out.2.2.2).drew⟩
 refine ta 0 25 hHeld ?_
 try simp only [zz]
 refine tk 1 26 ?_ rfl (by kernel_rfl) (fun _ _ _ h => h) (by kernel_rfl) ?_ hHeld ?_
 rotate_left
 · intro w1 hSw; (try dsimp only at hSw); have cc := (hSw.1).cell 0; simp only [List.getElem?_cons_succ, List.getElem?_cons_zero] at cc; go_simp <;> with_reducible rfl
 try simp only [zz]
 refine ta 2 27 hHeld ?_
 try simp only [zz]
 refine ta 3 28 hHeld ?_
 try simp only [zz]
 refine ta 5 30 hHeld ?_
 try simp only [zz]
 refine tk 6 31 ?_ rfl (by kernel_rfl) (fun _ _ _ h => h) (by kernel_rfl) ?_ hHeld ?_
 rotate_left
 · intro w1 hSw; (try dsimp only at hSw); have cc := (hSw.1).cell 1; simp only [List.getElem?_cons_succ, List.getElem?_cons_zero] at cc; go_simp <;> with_reducible rfl
 try simp only [zz]
 refine ta 7 32 hHeld ?_
 try simp only [zz]
 refine ta 8 33 hHeld ?_
 try simp only [zz]
 refine tk 10 35 (.agg #[.int .i64 lo, .int .i64 hi]) rfl (by kernel_rfl) (fun _ _ _ h => h) (by kernel_rfl) (fun V hV => ex_rowT 212 _ rfl (W1.heap.size) rfl 212 [.int .i64 lo, .int .i64 hi] _ Tryz.underlying212 rfl (by kernel_rfl) (hV.2.1)) hHeld ?_
 try simp only [zz]
 refine tk 11 36 (.agg #[.int .i64 mn, .int .i64 mx]) rfl (by kernel_rfl) (fun _ _ _ h => h) (by kernel_rfl) (fun V hV => ex_rowT 212 _ rfl (W2.heap.size) rfl 212 [.int .i64 mn, .int .i64 mx] _ Tryz.underlying212 rfl (by kernel_rfl) (hV.2.2.1)) hHeld ?_
 try simp only [zz]
 refine ta 12 37 hHeld ?_
 try simp only [zz]
 refine st2 4 (fun K hK => ?_)
 go_simp
 go_at_call 86
 refine (between_any lo low high _).mono ?_
 rintro e v4 ⟨rfl, rfl⟩
 try go_simp
 refine hK.out _ _ ?_ (fun hHeld => ?_)
 · exact hHeld
 clear hK K
 try simp only [zz]
 refine st2 9 (fun K hK => ?_)
 go_simp
 go_at_call 86
 refine (between_any hi low high _).mono ?_
 rintro e v9 ⟨rfl, rfl⟩
 try go_simp
 refine hK.out _ _ ?_ (fun hHeld => ?_)
 · exact hHeld
 clear hK K
 try simp only [zz]
 refine st2 13 (fun K hK => ?_)
 go_simp
 go_at_call 69
 refine (failed_any zb 11 _).mono ?_
 rintro e v13 ⟨rfl, rfl⟩
 try go_simp
 refine hK.out _ _ ?_ (fun hHeld => ?_)
 · exact hHeld
 clear hK K
 try simp only [zz]
 refine st2 14 (fun K hK => ?_)
 go_simp
 refine hK.out _ _ ?_ (fun hHeld => ?_)
 · exact ⟨(hHeld.1).old ((Below.refl _ _).alloc (Nat.le_refl _) _), (hHeld.2.1).old ((Below.refl _ _).alloc (Nat.le_refl _) _), (hHeld.2.2.1).old ((Below.refl _ _).alloc (Nat.le_refl _) _), (hHeld.2.2.2).trans ((((Below.refl _ _).alloc (Nat.le_refl _) _)).mono (hHeld.2.2.2).size)⟩
 clear hK K
 try simp only [zz]
 refine st2 15 (fun K hK => ?_)
 go_simp
 go_at_call 64
 refine (firstV_any _ _ _ [whenI (rangeB lo low high) 3, whenI (rangeB hi low high) 3, whenI zb 11] _ ?_ rfl (by simp)).mono ?_
 · exact Rd.newT (t := 32)
 rintro e v13 ⟨rfl, rfl⟩
 try go_simp
 refine hK.out _ _ ?_ (fun hHeld => ?_)
 · exact hHeld
 clear hK K
 try simp only [zz]
 refine ta 16 6 hHeld ?_
 try simp only [zz]
 refine wpAnyH_done (by kernel_rfl) ?_ _
 go_wp2_with fail
 go_ret
 exact ⟨rfl, hHeld.2.2.2⟩
theorem checkReceiver_any (rs rf rl ra rb : Int) (w : World) : Calls Tryz.prog 84 #[.agg #[.int .i64 rs, .int .i64 rf, .int .i64 rl, .int .i64 ra, .int .i64 rb]] w fun e w' => e = .returned (.int .i64 (recE rs rf rl ra rb)) ∧ Below w.heap.size w w' := by
 exact checkReceiver_of rs rf rl ra rb w (fun W => checkInterval_any ra rb (-10000) 10000 W)
set_option maxRecDepth 100000
set_option maxHeartbeats 1000000
theorem flat_getS {α : Type} (f : α → List Value) (m : Nat) (hf : ∀ x, (f x).length = m) (l : List α) (k : Nat) (hk : k < l.length) (j : Nat) (hj : j < m) : (l.flatMap f)[k * m + j]? = (f l[k])[j]? := by
 induction l generalizing k with
 | nil => simp at hk
 | cons p l ih =>
   cases k with
   | zero =>
     rw [List.flatMap_cons, Nat.zero_mul, Nat.zero_add, List.getElem?_append_left (by rw [hf]; exact hj)]; rfl
   | succ k =>
     have e : (k + 1) * m + j = m + (k * m + j) := by rw [Nat.succ_mul]; omega
     rw [List.flatMap_cons, e, List.getElem?_append_right (by rw [hf]; omega), hf, Nat.add_sub_cancel_left]
     exact ih k (by simpa using hk)
structure Sg where
 a : Int
 b : Int
 c : Int
 d : Int
 x : Int
 y : Int
def Sg.L (s : Sg) : List Value := [.int .i64 s.a, .int .i64 s.b, .int .i64 s.c, .int .i64 s.d, .int .i64 s.x, .int .i64 s.y]
def sgE (s : Sg) : Int := sigE s.a s.b s.c s.d s.x s.y
def sgC (l : List Sg) : List Value := l.flatMap Sg.L
theorem Rd.sg {w : World} {A : Option Addr} {l : List Sg} (h : Rd w A (sgC l)) {k : Nat} (hk : k < l.length) : ∃ b off, A = some ⟨b, off, none⟩ ∧ w.cell? ⟨b, off + k * 6, none⟩ = some (.int .i64 l[k].a) ∧ w.cell? ⟨b, off + k * 6 + 1, none⟩ = some (.int .i64 l[k].b) ∧ w.cell? ⟨b, off + k * 6 + 2, none⟩ = some (.int .i64 l[k].c) ∧ w.cell? ⟨b, off + k * 6 + 3, none⟩ = some (.int .i64 l[k].d) ∧ w.cell? ⟨b, off + k * 6 + 4, none⟩ = some (.int .i64 l[k].x) ∧ w.cell? ⟨b, off + k * 6 + 5, none⟩ = some (.int .i64 l[k].y) := by
 have g := fun j hj => flat_getS Sg.L 6 (fun _ => rfl) l k hk j hj
 obtain ⟨b, o, e, c0⟩ := h (k * 6 + 0) _ (g 0 (by decide))
 have st : ∀ j v, (sgC l)[k * 6 + j]? = some v → w.cell? ⟨b, o + k * 6 + j, none⟩ = some v := fun j v hv => by
  obtain ⟨b', o', e', c⟩ := h _ _ hv
  rw [e] at e'
  cases e'
  rw [Nat.add_assoc]; exact c
 exact ⟨b, o, e, st 0 _ (g 0 (by decide)), st 1 _ (g 1 (by decide)), st 2 _ (g 2 (by decide)), st 3 _ (g 3 (by decide)), st 4 _ (g 4 (by decide)), st 5 _ (g 5 (by decide))⟩
def sgsE (l : List Sg) : Int := firstI [whenI (decide (l.length = 0)) 12, if 256 < l.length then 5 else firstI (l.map sgE)]
theorem mappedS_any (A : Option Addr) (c : Nat) (l : List Sg) (w : World) (hA : Rd w A (sgC l)) (hm : l.length ≤ 1000) :
 Calls Tryz.prog 169 #[.slice A l.length c, .func (.func 44) #[] #[]] w fun e w' => ∃ g, e = .returned (.slice (some ⟨g, 0, none⟩) l.length l.length) ∧ Row w' g 32 (ints (l.map sgE)) ∧ w.heap.size ≤ g ∧ Below w.heap.size w w' := by
 have hmk := fun W : World => make1 (P := Tryz.prog) 180 32 (.int .i64 0) 8 Tryz.underlying180 info27 rfl l.length (by omega) (by omega) W
 go_enter Tryz.func169, Tryz.ntmps169
 go_wp2
 go_loopw [13] (fun i wr => ∃ k : Nat, k ≤ l.length ∧ i = .int .i64 k ∧ Row wr w.heap.size 32 (ints ((l.map sgE).take k) ++ List.replicate (l.length - k) (.int .i64 0)) ∧ Below w.heap.size w wr) (fun i _ => l.length - (intOf i).toNat)
 case atStart => exact ⟨0, Nat.zero_le _, rfl, by have := Row.new w 32 (List.replicate l.length (.int .i64 0)); simpa [ints] using this, (Below.refl _ _).alloc (Nat.le_refl _) _⟩
 case round =>
  obtain ⟨k, hk, rfl, hrow, hb⟩ := hrel
  by_cases hlt : k < l.length
  · obtain ⟨b0, off, rfl, q0, q1, q2, q3, q4, q5⟩ := Rd.sg (hA.below hb) hlt
    have hset := Lib.hid (part_set (l.map sgE) l.length k (by simpa using hlt) (by simp))
    have hfk := Lib.hid (show (l.map sgE)[k]'(by simpa using hlt) = sgE l[k] by simp)
    obtain ⟨⟨a, b, cc, d, x, y⟩, hs⟩ : ∃ s, s = l[k] := ⟨_, rfl⟩
    rw [← hs] at q0 q1 q2 q3 q4 q5 hfk
    dsimp only at q0 q1 q2 q3 q4 q5
    have HP : Hid (∀ W, Calls Tryz.prog 44 #[.agg #[.int .i64 a, .int .i64 b, .int .i64 cc, .int .i64 d, .int .i64 x, .int .i64 y]] W fun e w' => e = .returned (.int .i64 (sigE a b cc d x y)) ∧ Below W.heap.size W w') := fun W => checkSignal_any a b cc d x y W
    have hbn : Below wr.heap.size wr ((wr.alloc (.cells #[.int .i64 0, .int .i64 0, .int .i64 0, .int .i64 0, .int .i64 0, .int .i64 0] 35)).setRow wr.heap.size #[.int .i64 a, .int .i64 b, .int .i64 cc, .int .i64 d, .int .i64 x, .int .i64 y]) := Below.setRow ((Below.refl _ _).alloc (Nat.le_refl _) _) (Nat.le_refl _) _
    have Hrow := Lib.hid (hrow.old hbn)
    have Hb := Lib.hid (hb.trans (hbn.mono hb.size))
    have Hn : Hid (Row ((wr.alloc (.cells #[.int .i64 0, .int .i64 0, .int .i64 0, .int .i64 0, .int .i64 0, .int .i64 0] 35)).setRow wr.heap.size #[.int .i64 a, .int .i64 b, .int .i64 cc, .int .i64 d, .int .i64 x, .int .i64 y]) wr.heap.size 35 [.int .i64 a, .int .i64 b, .int .i64 cc, .int .i64 d, .int .i64 x, .int .i64 y]) := (Row.new wr 35 [.int .i64 0, .int .i64 0, .int .i64 0, .int .i64 0, .int .i64 0, .int .i64 0]).setRow _
    have hfk2 : Hid ((l.map sgE)[k]'(by simpa using hlt) = sigE a b cc d x y) := hfk.out
    obtain ⟨E1, hE1⟩ : ∃ E1, E1 = sigE a b cc d x y := ⟨_, rfl⟩
    rw [← hE1] at HP hfk2
    clear hrow hb hs hbn hE1 hfk
    go_wp2_with (first
     | (refine wpList_store_row rfl 35 _ _ rfl (wr.heap.size) #[.int .i64 a, .int .i64 b, .int .i64 cc, .int .i64 d, .int .i64 x, .int .i64 y] rfl rfl 35 _ (Row.new wr 35 [.int .i64 0, .int .i64 0, .int .i64 0, .int .i64 0, .int .i64 0, .int .i64 0]) ?_ ?_ ?_ ?_; (kernel_rfl); (rfl); (simp [Value.oneCell']))
     | (refine wpList_load_row rfl 35 _ rfl (wr.heap.size) rfl 35 #[.int .i64 a, .int .i64 b, .int .i64 cc, .int .i64 d, .int .i64 x, .int .i64 y] (0, 0) _ Hn.out Tryz.underlying35 rfl ?_ ?_; (kernel_rfl)))
    refine (HP.out _).mono ?_
    rintro e w1 ⟨rfl, hb1⟩
    have Hrow1 := Lib.hid (Hrow.out.old hb1)
    have hc1 : w1.cell? ⟨w.heap.size, k, none⟩ = some (.int .i64 0) := by
     rw [Hrow1.out.cell]
     exact mid_get _ _ _ _ (by simp [ints]; omega) hlt
    have hf1 := Hrow1.out.free k
    have Hb1 := Lib.hid (Hb.out.trans (hb1.mono Hb.out.size))
    clear hb1 q0 q1 q2 q3 q4 q5
    go_wp2
    go_roundw
    case rel => exact ⟨k + 1, by omega, by go_num, by rw [← hset.out, hfk2.out]; exact Hrow1.out.set k _, Hb1.out.setCell (by simp) _⟩
    case measure => simp [intOf]; omega
  · obtain rfl : k = l.length := by omega
    go_wp2
    go_ret
    exact ⟨_, rfl, by rw [Nat.sub_self, List.replicate_zero, List.append_nil, List.take_of_length_le (by simp)] at hrow; exact hrow, Nat.le_refl _, hb⟩
theorem checkListS_any (A : Option Addr) (c : Nat) (l : List Sg) (w : World) (hA : Rd w A (sgC l)) (hm : l.length ≤ 1000000) :
 Calls Tryz.prog 143 #[.slice A l.length c, .int .i64 256, .func (.func 44) #[] #[]] w fun e w' => e = .returned (.int .i64 (if 256 < l.length then 5 else firstI (l.map sgE))) ∧ Below w.heap.size w w' := by
 by_cases h : 256 < l.length
 · have h1 : decide ((256 : Int) < (l.length : Int)) = true := by simpa using (by omega : (256 : Int) < (l.length : Int))
   rw [if_pos h]
   have H := Lib.hid h
   have h2 : (256 : Int) < (l.length : Int) := by omega
   clear h
   go_enter Tryz.func143, Tryz.ntmps143
   go_wp2
   go_ret
   exact ⟨rfl, Below.refl _ _⟩
 · have h1 : decide ((256 : Int) < (l.length : Int)) = false := by simpa using (by omega : (l.length : Int) ≤ (256 : Int))
   rw [if_neg h]
   have h2 : ¬ (256 : Int) < (l.length : Int) := by omega
   have HM := Lib.hid (mappedS_any A c l w hA (by omega))
   have HL : Hid (l.length ≤ 256) := by show _ ≤ _; omega
   clear h hA hm
   go_enter Tryz.func143, Tryz.ntmps143
   go_wp2_with fail
   refine HM.out.mono ?_
   rintro e w1 ⟨g, rfl, hrow, hg, hb⟩
   have HB1 := Lib.hid hb
   clear hb
   go_wp2_with fail
   refine (firstV_any _ _ _ (l.map sgE) _ (Rd.row hrow) (by simp) (by have := HL.out; simp; omega)).mono ?_
   rintro e w2 ⟨rfl, rfl⟩
   go_wp2
   go_ret
   exact ⟨rfl, HB1.out⟩
theorem checkSomeS_any (A : Option Addr) (c : Nat) (l : List Sg) (w : World) (hA : Rd w A (sgC l)) (hm : l.length ≤ 1000000) :
 Calls Tryz.prog 108 #[.slice A l.length c, .int .i64 256, .func (.func 44) #[] #[]] w fun e w' => e = .returned (.int .i64 (sgsE l)) ∧ Below w.heap.size w w' := by
 have HC := Lib.hid (checkListS_any A c l w hA hm)
 unfold sgsE
 obtain ⟨E2, hE2⟩ : ∃ E2, E2 = (if 256 < l.length then 5 else firstI (l.map sgE)) := ⟨_, rfl⟩
 rw [← hE2] at HC ⊢
 obtain ⟨zb, hzb⟩ : ∃ zb, zb = decide (l.length = 0) := ⟨_, rfl⟩
 rw [← hzb]
 obtain ⟨n, hn⟩ : ∃ n, n = l.length := ⟨_, rfl⟩
 rw [← hn] at HC hzb ⊢
 have z1 : ((n : Int) == 0) = zb := by
  rw [hzb]; cases n <;> simp
  omega
 have z2 : decide (n = 0) = zb := hzb.symm
 clear hE2 hzb hn hA hm
 go_enter Tryz.func108, Tryz.ntmps108
 go_wp2_with (first
  | (go_at_call 69; refine (failed_any zb 12 _).mono ?_; rintro e w' ⟨rfl, rfl⟩)
  | (go_at_call 143; refine HC.out.mono ?_; rintro e w1 ⟨rfl, hb1⟩; have HB1 := Lib.hid hb1; clear hb1)
  | (go_at_call 64; refine (firstV_any _ _ _ [whenI zb 12, E2] _ Rd.newT rfl (by simp)).mono ?_; rintro e w2 ⟨rfl, rfl⟩))
 go_ret
 exact ⟨rfl, HB1.out.alloc HB1.out.size _⟩
theorem checkSignals_any (A : Option Addr) (c : Nat) (l : List Sg) (w : World) (hA : Rd w A (sgC l)) (hm : l.length ≤ 1000000) :
 Calls Tryz.prog 52 #[.slice A l.length c] w fun e w' => e = .returned (.int .i64 (sgsE l)) ∧ Below w.heap.size w w' := by
 have HC := Lib.hid (checkSomeS_any A c l w hA hm)
 clear hA hm
 go_enter Tryz.func52, Tryz.ntmps52
 go_wp2_with fail
 refine HC.out.mono ?_
 rintro e w1 ⟨rfl, hb1⟩
 go_wp2
 go_ret
 exact ⟨rfl, hb1⟩
set_option maxRecDepth 100000
set_option maxHeartbeats 4000000
theorem ex_Signal {o : Oper} {a : Act} {w : World} {u0 u1 u2 u3 u4 u5 : Value} (x : Operand) (ho : o.op = .load 35 x) (g off : Nat) (hx : a.eval x = .pointer (some ⟨g, off, none⟩)) (c0 : w.cell? ⟨g, off, none⟩ = some u0) (c1 : w.cell? ⟨g, off + 1, none⟩ = some u1) (c2 : w.cell? ⟨g, off + 2, none⟩ = some u2) (c3 : w.cell? ⟨g, off + 3, none⟩ = some u3) (c4 : w.cell? ⟨g, off + 4, none⟩ = some u4) (c5 : w.cell? ⟨g, off + 5, none⟩ = some u5) :
 (execOp a.eval o).run Tryz.prog w = .ok (.value (.agg #[u0, u1, u2, u3, u4, u5])) w := by
 unfold execOp
 simp only [ho, hx]
 go_simp
def capI (p q t : Int) : Int := if q * t ≤ p * 1000 then 0 else if p * t ≤ q * 1000 then 1 else 2
theorem captures_any (a b c d x y k l m n u v t p q : Int) (w : World) (h1 : Gs a b) (h2 : Gs k l) (hp : p = a * a + b * b) (hq : q = k * k + l * l) (bp : p.natAbs ≤ 1000000000) (bq : q.natAbs ≤ 1000000000) (ht : 0 ≤ t ∧ t ≤ 10000) : Calls Tryz.prog 118 #[.agg #[.int .i64 a, .int .i64 b, .int .i64 c, .int .i64 d, .int .i64 x, .int .i64 y], .agg #[.int .i64 k, .int .i64 l, .int .i64 m, .int .i64 n, .int .i64 u, .int .i64 v], .int .i64 t] w fun e w' => e = .returned (.bool (decide (q * t ≤ p * 1000))) ∧ Below w.heap.size w w' := by
 have HP : Hid (∀ W, Calls Tryz.prog 132 #[.agg #[.int .i64 a, .int .i64 b, .int .i64 c, .int .i64 d, .int .i64 x, .int .i64 y]] W fun e w' => e = .returned (.int .i64 p) ∧ Below W.heap.size W w') := fun W => by rw [hp]; exact squareS_any a b c d x y W h1
 have HQ : Hid (∀ W, Calls Tryz.prog 132 #[.agg #[.int .i64 k, .int .i64 l, .int .i64 m, .int .i64 n, .int .i64 u, .int .i64 v]] W fun e w' => e = .returned (.int .i64 q) ∧ Below W.heap.size W w') := fun W => by rw [hq]; exact squareS_any k l m n u v W h2
 have b1 : (q * t).natAbs ≤ 1000000000 * 10000 := by rw [Int.natAbs_mul]; exact Nat.mul_le_mul bq (by omega)
 have e1 : IntKind.i64.wrap (p * 1000) = p * 1000 := IntWalk.i64_in _ (by omega)
 have e2 : IntKind.i64.wrap (q * t) = q * t := IntWalk.i64_in _ (by omega)
 clear h1 h2 hp hq bp bq ht b1
 go_enter Tryz.func118, Tryz.ntmps118
 go_upto_region 1 with fail
 refine genT (fun V => Row V (w.heap.size) 35 [.int .i64 a, .int .i64 b, .int .i64 c, .int .i64 d, .int .i64 x, .int .i64 y] ∧ Row V (w.heap.size + 1) 35 [.int .i64 k, .int .i64 l, .int .i64 m, .int .i64 n, .int .i64 u, .int .i64 v] ∧ Below w.heap.size w V) ⟨(Row.alloc (rowAt _ _ (by first | rfl | simp only [World.size_alloc])) _), (rowAt _ _ (by first | rfl | simp only [World.size_alloc])), (((Below.refl _ _).alloc (by first | exact Nat.le_refl _ | (simp only [World.size_alloc]; omega)) _).alloc (by first | exact Nat.le_refl _ | (simp only [World.size_alloc]; omega)) _)⟩ ?_
 intro W1 s1
 have HS1 := Lib.hid s1
 clear s1
 refine wp_region_held_drew (S := fun V => Row V (w.heap.size) 35 [.int .i64 a, .int .i64 b, .int .i64 c, .int .i64 d, .int .i64 x, .int .i64 y] ∧ Row V (w.heap.size + 1) 35 [.int .i64 k, .int .i64 l, .int .i64 m, .int .i64 n, .int .i64 u, .int .i64 v] ∧ Below w.heap.size w V) (by kernel_rfl) ?_ (fun hHeld => ?_)
 · exact ⟨(HS1.out.1).drew, (HS1.out.2.1).drew, (HS1.out.2.2).drew⟩
 refine tk 0 7 (.agg #[.int .i64 a, .int .i64 b, .int .i64 c, .int .i64 d, .int .i64 x, .int .i64 y]) rfl (by kernel_rfl) (fun _ _ _ h => h) (by kernel_rfl) (fun V hV => ex_rowT 35 _ rfl (w.heap.size) rfl 35 [.int .i64 a, .int .i64 b, .int .i64 c, .int .i64 d, .int .i64 x, .int .i64 y] _ Tryz.underlying35 rfl (by kernel_rfl) (hV.1)) hHeld ?_
 try simp only [zz]
 refine tk 3 10 (.agg #[.int .i64 k, .int .i64 l, .int .i64 m, .int .i64 n, .int .i64 u, .int .i64 v]) rfl (by kernel_rfl) (fun _ _ _ h => h) (by kernel_rfl) (fun V hV => ex_rowT 35 _ rfl (w.heap.size + 1) rfl 35 [.int .i64 k, .int .i64 l, .int .i64 m, .int .i64 n, .int .i64 u, .int .i64 v] _ Tryz.underlying35 rfl (by kernel_rfl) (hV.2.1)) hHeld ?_
 try simp only [zz]
 refine ta 5 12 hHeld ?_
 try simp only [zz]
 refine st2 1 (fun K hK => ?_)
 go_simp
 go_at_call 132
 refine (HP.out _).mono ?_
 rintro e v1 ⟨rfl, hb1⟩
 try go_simp
 refine hK.out _ _ ?_ (fun hHeld => ?_)
 · exact ⟨(hHeld.1).old hb1, (hHeld.2.1).old hb1, (hHeld.2.2).trans ((hb1).mono (hHeld.2.2).size)⟩
 clear hK K
 try simp only [zz]
 refine ta 2 9 hHeld ?_
 try simp only [zz]
 refine st2 4 (fun K hK => ?_)
 go_simp
 go_at_call 132
 refine (HQ.out _).mono ?_
 rintro e v4 ⟨rfl, hb4⟩
 try go_simp
 refine hK.out _ _ ?_ (fun hHeld => ?_)
 · exact ⟨(hHeld.1).old hb4, (hHeld.2.1).old hb4, (hHeld.2.2).trans ((hb4).mono (hHeld.2.2).size)⟩
 clear hK K
 try simp only [zz]
 refine ta 6 13 hHeld ?_
 try simp only [zz]
 refine ta 7 14 hHeld ?_
 try simp only [zz]
 refine ta 8 6 hHeld ?_
 try simp only [zz]
 refine wpAnyH_done (by kernel_rfl) ?_ _
 go_wp2_with fail
 go_ret
 exact ⟨rfl, hHeld.2.2⟩
theorem captured_any (a b c d x y k l m n u v t p q : Int) (w : World) (h1 : Gs a b) (h2 : Gs k l) (hp : p = a * a + b * b) (hq : q = k * k + l * l) (bp : p.natAbs ≤ 1000000000) (bq : q.natAbs ≤ 1000000000) (ht : 0 ≤ t ∧ t ≤ 10000) : Calls Tryz.prog 60 #[.agg #[.int .i64 a, .int .i64 b, .int .i64 c, .int .i64 d, .int .i64 x, .int .i64 y, .int .i64 k, .int .i64 l, .int .i64 m, .int .i64 n, .int .i64 u, .int .i64 v], .int .i64 t] w fun e w' => e = .returned (.int .i64 (capI p q t)) ∧ Below w.heap.size w w' := by
 have hR : capI p q t = if decide (q * t ≤ p * 1000) then 0 else if decide (p * t ≤ q * 1000) then 1 else 2 := by unfold capI; simp
 obtain ⟨g0, hg0⟩ : ∃ g0, g0 = decide (q * t ≤ p * 1000) := ⟨_, rfl⟩
 obtain ⟨g1, hg1⟩ : ∃ g1, g1 = decide (p * t ≤ q * 1000) := ⟨_, rfl⟩
 rw [← hg0, ← hg1] at hR
 have HR := Lib.hid hR
 have HC0 : Hid (∀ W, Calls Tryz.prog 118 #[.agg #[.int .i64 a, .int .i64 b, .int .i64 c, .int .i64 d, .int .i64 x, .int .i64 y], .agg #[.int .i64 k, .int .i64 l, .int .i64 m, .int .i64 n, .int .i64 u, .int .i64 v], .int .i64 t] W fun e w' => e = .returned (.bool g0) ∧ Below W.heap.size W w') := fun W => by rw [hg0]; exact captures_any a b c d x y k l m n u v t p q W h1 h2 hp hq bp bq ht
 have HC1 : Hid (∀ W, Calls Tryz.prog 118 #[.agg #[.int .i64 k, .int .i64 l, .int .i64 m, .int .i64 n, .int .i64 u, .int .i64 v], .agg #[.int .i64 a, .int .i64 b, .int .i64 c, .int .i64 d, .int .i64 x, .int .i64 y], .int .i64 t] W fun e w' => e = .returned (.bool g1) ∧ Below W.heap.size W w') := fun W => by rw [hg1]; exact captures_any k l m n u v a b c d x y t q p W h2 h1 hq hp bq bp ht
 have hi0 : ∀ w, (Instr.index 57 (.agg #[.int .i64 a, .int .i64 b, .int .i64 c, .int .i64 d, .int .i64 x, .int .i64 y, .int .i64 k, .int .i64 l, .int .i64 m, .int .i64 n, .int .i64 u, .int .i64 v]) (.int .i64 0)).run Tryz.prog w = .ok (.agg #[.int .i64 a, .int .i64 b, .int .i64 c, .int .i64 d, .int .i64 x, .int .i64 y]) w := fun w => by kernel_rfl
 have hi1 : ∀ w, (Instr.index 57 (.agg #[.int .i64 a, .int .i64 b, .int .i64 c, .int .i64 d, .int .i64 x, .int .i64 y, .int .i64 k, .int .i64 l, .int .i64 m, .int .i64 n, .int .i64 u, .int .i64 v]) (.int .i64 1)).run Tryz.prog w = .ok (.agg #[.int .i64 k, .int .i64 l, .int .i64 m, .int .i64 n, .int .i64 u, .int .i64 v]) w := fun w => by kernel_rfl
 have hw1 : IntKind.i64.wrap 1 = 1 := by first | rfl | decide
 have hw0 : IntKind.i64.wrap 0 = 0 := by first | rfl | decide
 clear hR hg0 hg1 h1 h2 hp hq bp bq ht
 go_enter Tryz.func60, Tryz.ntmps60
 go_upto_region 1 with fail
 refine genT (fun V => Row V (w.heap.size) 57 [.int .i64 a, .int .i64 b, .int .i64 c, .int .i64 d, .int .i64 x, .int .i64 y, .int .i64 k, .int .i64 l, .int .i64 m, .int .i64 n, .int .i64 u, .int .i64 v] ∧ Below w.heap.size w V) ⟨(rowAt _ _ (by first | rfl | simp only [World.size_alloc])), ((Below.refl _ _).alloc (by first | exact Nat.le_refl _ | (simp only [World.size_alloc]; omega)) _)⟩ ?_
 intro W1 s1
 have HS1 := Lib.hid s1
 clear s1
 go_upto_region 2 with (refine wpList_load_row rfl 57 _ rfl (w.heap.size) rfl 57 #[.int .i64 a, .int .i64 b, .int .i64 c, .int .i64 d, .int .i64 x, .int .i64 y, .int .i64 k, .int .i64 l, .int .i64 m, .int .i64 n, .int .i64 u, .int .i64 v] (0, 0) _ HS1.out.1 Tryz.underlying57 rfl ?_ ?_; (kernel_rfl))
 go_loopg [8] 2 (fun gg s8 wx => (gg = 2 ∧ s8 = .int .i64 0 ∧ Hid (Row wx (w.heap.size) 57 [.int .i64 a, .int .i64 b, .int .i64 c, .int .i64 d, .int .i64 x, .int .i64 y, .int .i64 k, .int .i64 l, .int .i64 m, .int .i64 n, .int .i64 u, .int .i64 v] ∧ Below w.heap.size w wx)) ∨ (gg = 1 ∧ s8 = .int .i64 1 ∧ g0 = false ∧ Hid (Row wx (w.heap.size) 57 [.int .i64 a, .int .i64 b, .int .i64 c, .int .i64 d, .int .i64 x, .int .i64 y, .int .i64 k, .int .i64 l, .int .i64 m, .int .i64 n, .int .i64 u, .int .i64 v] ∧ Below w.heap.size w wx)) ∨ (gg = 0 ∧ s8 = .int .i64 2 ∧ g0 = false ∧ g1 = false ∧ Hid (Row wx (w.heap.size) 57 [.int .i64 a, .int .i64 b, .int .i64 c, .int .i64 d, .int .i64 x, .int .i64 y, .int .i64 k, .int .i64 l, .int .i64 m, .int .i64 n, .int .i64 u, .int .i64 v] ∧ Below w.heap.size w wx)))
 case atStart => exact .inl ⟨rfl, rfl, HS1⟩
 case round =>
  clear HS1
  obtain ⟨rfl, rfl, HS⟩ | ⟨rfl, rfl, rfl, HS⟩ | ⟨rfl, rfl, rfl, rfl, HS⟩ := hrel
  · have hlt : w.heap.size < wr.heap.size := HS.out.1.lt
    have hbn : Below wr.heap.size wr ((wr.alloc (.cells #[.int .i64 0, .int .i64 0, .int .i64 0, .int .i64 0, .int .i64 0, .int .i64 0] 35)).setRow wr.heap.size #[.int .i64 a, .int .i64 b, .int .i64 c, .int .i64 d, .int .i64 x, .int .i64 y]) := Below.setRow ((Below.refl _ _).alloc (Nat.le_refl _) _) (Nat.le_refl _) _
    go_upto_region 4 with (refine wpList_store_row rfl 35 _ _ rfl (wr.heap.size) #[.int .i64 a, .int .i64 b, .int .i64 c, .int .i64 d, .int .i64 x, .int .i64 y] rfl rfl 35 _ (Row.new wr 35 [.int .i64 0, .int .i64 0, .int .i64 0, .int .i64 0, .int .i64 0, .int .i64 0]) ?_ ?_ ?_ ?_; (kernel_rfl); (rfl); (simp [Value.oneCell']))
    refine genT (fun V => Row V (w.heap.size) 57 [.int .i64 a, .int .i64 b, .int .i64 c, .int .i64 d, .int .i64 x, .int .i64 y, .int .i64 k, .int .i64 l, .int .i64 m, .int .i64 n, .int .i64 u, .int .i64 v] ∧ Row V (wr.heap.size) 35 [.int .i64 a, .int .i64 b, .int .i64 c, .int .i64 d, .int .i64 x, .int .i64 y] ∧ Below w.heap.size w V) ⟨HS.out.1.old hbn, (Row.new wr 35 [.int .i64 0, .int .i64 0, .int .i64 0, .int .i64 0, .int .i64 0, .int .i64 0]).setRow _, HS.out.2.trans (hbn.mono HS.out.2.size)⟩ ?_
    clear hbn HS
    intro W2 s2
    have HS2 := Lib.hid s2
    clear s2
    refine wp_region_held_drew (S := fun V => Row V (w.heap.size) 57 [.int .i64 a, .int .i64 b, .int .i64 c, .int .i64 d, .int .i64 x, .int .i64 y, .int .i64 k, .int .i64 l, .int .i64 m, .int .i64 n, .int .i64 u, .int .i64 v] ∧ Row V (wr.heap.size) 35 [.int .i64 a, .int .i64 b, .int .i64 c, .int .i64 d, .int .i64 x, .int .i64 y] ∧ Below w.heap.size w V) (by kernel_rfl) ?_ (fun hHeld => ?_)
    · exact ⟨(HS2.out.1).drew, (HS2.out.2.1).drew, (HS2.out.2.2).drew⟩
    refine tk 0 12 (.agg #[.int .i64 a, .int .i64 b, .int .i64 c, .int .i64 d, .int .i64 x, .int .i64 y]) rfl (by kernel_rfl) (fun _ _ _ h => h) (by kernel_rfl) (fun V hV => ex_rowT 35 _ rfl (wr.heap.size) rfl 35 [.int .i64 a, .int .i64 b, .int .i64 c, .int .i64 d, .int .i64 x, .int .i64 y] _ Tryz.underlying35 rfl (by kernel_rfl) (hV.2.1)) hHeld ?_
    try simp only [zz]
    refine ta 1 13 hHeld ?_
    try simp only [zz]
    refine ta 2 14 hHeld ?_
    try simp only [zz]
    refine ta 3 15 hHeld ?_
    try simp only [zz]
    refine tk 4 16 (.agg #[.int .i64 k, .int .i64 l, .int .i64 m, .int .i64 n, .int .i64 u, .int .i64 v]) rfl (by kernel_rfl) (fun _ _ _ h => h) (by kernel_rfl) (fun V hV => ex_Signal _ rfl (w.heap.size) 6 rfl ((hV.1).cell 6) ((hV.1).cell 7) ((hV.1).cell 8) ((hV.1).cell 9) ((hV.1).cell 10) ((hV.1).cell 11)) hHeld ?_
    try simp only [zz]
    refine ta 5 17 hHeld ?_
    try simp only [zz]
    refine st2 6 (fun K hK => ?_)
    go_simp
    go_at_call 118
    refine (HC0.out _).mono ?_
    rintro e v6 ⟨rfl, hb6⟩
    try go_simp
    refine hK.out _ _ ?_ (fun hHeld => ?_)
    · exact ⟨(hHeld.1).old hb6, (hHeld.2.1).old hb6, (hHeld.2.2).trans ((hb6).mono (hHeld.2.2).size)⟩
    clear hK K
    try simp only [zz]
    refine wpAnyH_done (by kernel_rfl) ?_ _
    cases g0 with
    | true =>
      go_wp2_with fail
      go_ret
      exact ⟨by rw [HR.out]; rfl, hHeld.2.2⟩
    | false =>
      go_wp2_with fail
      go_roundg 1
      case measure => omega
      case rel => exact .inr (.inl ⟨rfl, rfl, (by first | rfl | trivial), ⟨hHeld.1, hHeld.2.2⟩⟩)
  · have hlt : w.heap.size < wr.heap.size := HS.out.1.lt
    have hbn : Below wr.heap.size wr ((wr.alloc (.cells #[.int .i64 0, .int .i64 0, .int .i64 0, .int .i64 0, .int .i64 0, .int .i64 0] 35)).setRow wr.heap.size #[.int .i64 k, .int .i64 l, .int .i64 m, .int .i64 n, .int .i64 u, .int .i64 v]) := Below.setRow ((Below.refl _ _).alloc (Nat.le_refl _) _) (Nat.le_refl _) _
    go_upto_region 4 with (refine wpList_store_row rfl 35 _ _ rfl (wr.heap.size) #[.int .i64 k, .int .i64 l, .int .i64 m, .int .i64 n, .int .i64 u, .int .i64 v] rfl rfl 35 _ (Row.new wr 35 [.int .i64 0, .int .i64 0, .int .i64 0, .int .i64 0, .int .i64 0, .int .i64 0]) ?_ ?_ ?_ ?_; (kernel_rfl); (rfl); (simp [Value.oneCell']))
    refine genT (fun V => Row V (w.heap.size) 57 [.int .i64 a, .int .i64 b, .int .i64 c, .int .i64 d, .int .i64 x, .int .i64 y, .int .i64 k, .int .i64 l, .int .i64 m, .int .i64 n, .int .i64 u, .int .i64 v] ∧ Row V (wr.heap.size) 35 [.int .i64 k, .int .i64 l, .int .i64 m, .int .i64 n, .int .i64 u, .int .i64 v] ∧ Below w.heap.size w V) ⟨HS.out.1.old hbn, (Row.new wr 35 [.int .i64 0, .int .i64 0, .int .i64 0, .int .i64 0, .int .i64 0, .int .i64 0]).setRow _, HS.out.2.trans (hbn.mono HS.out.2.size)⟩ ?_
    clear hbn HS
    intro W2 s2
    have HS2 := Lib.hid s2
    clear s2
    refine wp_region_held_drew (S := fun V => Row V (w.heap.size) 57 [.int .i64 a, .int .i64 b, .int .i64 c, .int .i64 d, .int .i64 x, .int .i64 y, .int .i64 k, .int .i64 l, .int .i64 m, .int .i64 n, .int .i64 u, .int .i64 v] ∧ Row V (wr.heap.size) 35 [.int .i64 k, .int .i64 l, .int .i64 m, .int .i64 n, .int .i64 u, .int .i64 v] ∧ Below w.heap.size w V) (by kernel_rfl) ?_ (fun hHeld => ?_)
    · exact ⟨(HS2.out.1).drew, (HS2.out.2.1).drew, (HS2.out.2.2).drew⟩
    refine tk 0 12 (.agg #[.int .i64 k, .int .i64 l, .int .i64 m, .int .i64 n, .int .i64 u, .int .i64 v]) rfl (by kernel_rfl) (fun _ _ _ h => h) (by kernel_rfl) (fun V hV => ex_rowT 35 _ rfl (wr.heap.size) rfl 35 [.int .i64 k, .int .i64 l, .int .i64 m, .int .i64 n, .int .i64 u, .int .i64 v] _ Tryz.underlying35 rfl (by kernel_rfl) (hV.2.1)) hHeld ?_
    try simp only [zz]
    refine ta 1 13 hHeld ?_
    try simp only [zz]
    refine ta 2 14 hHeld ?_
    try simp only [zz]
    refine ta 3 15 hHeld ?_
    try simp only [zz]
    refine tk 4 16 (.agg #[.int .i64 a, .int .i64 b, .int .i64 c, .int .i64 d, .int .i64 x, .int .i64 y]) rfl (by kernel_rfl) (fun _ _ _ h => h) (by kernel_rfl) (fun V hV => ex_Signal _ rfl (w.heap.size) 0 rfl ((hV.1).cell 0) ((hV.1).cell 1) ((hV.1).cell 2) ((hV.1).cell 3) ((hV.1).cell 4) ((hV.1).cell 5)) hHeld ?_
    try simp only [zz]
    refine ta 5 17 hHeld ?_
    try simp only [zz]
    refine st2 6 (fun K hK => ?_)
    go_simp
    go_at_call 118
    refine (HC1.out _).mono ?_
    rintro e v6 ⟨rfl, hb6⟩
    try go_simp
    refine hK.out _ _ ?_ (fun hHeld => ?_)
    · exact ⟨(hHeld.1).old hb6, (hHeld.2.1).old hb6, (hHeld.2.2).trans ((hb6).mono (hHeld.2.2).size)⟩
    clear hK K
    try simp only [zz]
    refine wpAnyH_done (by kernel_rfl) ?_ _
    cases g1 with
    | true =>
      go_wp2_with fail
      go_ret
      exact ⟨by rw [HR.out]; rfl, hHeld.2.2⟩
    | false =>
      go_wp2_with fail
      go_roundg 0
      case measure => omega
      case rel => exact .inr (.inr ⟨rfl, rfl, (by first | rfl | trivial), (by first | rfl | trivial), ⟨hHeld.1, hHeld.2.2⟩⟩)
  · go_wp2_with fail
    go_ret
    exact ⟨by rw [HR.out]; rfl, HS.out.2⟩
set_option maxRecDepth 100000
set_option maxHeartbeats 1000000
theorem SigG.sq {a b c d x y : Int} (h : SigG a b c d x y) : (a * a + b * b).natAbs ≤ 200000000 := by
 have ha := h.pa; have hb := h.pb
 have b1 : (a * a).natAbs ≤ 10000 * 10000 := by rw [Int.natAbs_mul]; exact Nat.mul_le_mul (by omega) (by omega)
 have b2 : (b * b).natAbs ≤ 10000 * 10000 := by rw [Int.natAbs_mul]; exact Nat.mul_le_mul (by omega) (by omega)
 omega
theorem checkTwo_any (a b c d x y k l m n u v t : Int) (w : World) : Calls Tryz.prog 59 #[.agg #[.int .i64 a, .int .i64 b, .int .i64 c, .int .i64 d, .int .i64 x, .int .i64 y, .int .i64 k, .int .i64 l, .int .i64 m, .int .i64 n, .int .i64 u, .int .i64 v], .int .i64 t] w fun e w' => e = .returned (.int .i64 (firstI [sigE a b c d x y, sigE k l m n u v, whenI (rangeB t 1000 10000) 3])) ∧ Below w.heap.size w w' := by
 obtain ⟨E1, hE1⟩ : ∃ E1, E1 = sigE a b c d x y := ⟨_, rfl⟩
 obtain ⟨E2, hE2⟩ : ∃ E2, E2 = sigE k l m n u v := ⟨_, rfl⟩
 have HC1 : Hid (∀ W, Calls Tryz.prog 44 #[.agg #[.int .i64 a, .int .i64 b, .int .i64 c, .int .i64 d, .int .i64 x, .int .i64 y]] W fun e w' => e = .returned (.int .i64 E1) ∧ Below W.heap.size W w') := fun W => by rw [hE1]; exact checkSignal_any a b c d x y W
 have HC2 : Hid (∀ W, Calls Tryz.prog 44 #[.agg #[.int .i64 k, .int .i64 l, .int .i64 m, .int .i64 n, .int .i64 u, .int .i64 v]] W fun e w' => e = .returned (.int .i64 E2) ∧ Below W.heap.size W w') := fun W => by rw [hE2]; exact checkSignal_any k l m n u v W
 rw [← hE1, ← hE2]
 clear hE1 hE2
 go_enter Tryz.func59, Tryz.ntmps59
 go_upto_region 1 with fail
 refine genT (fun V => Row V (w.heap.size) 57 [.int .i64 a, .int .i64 b, .int .i64 c, .int .i64 d, .int .i64 x, .int .i64 y, .int .i64 k, .int .i64 l, .int .i64 m, .int .i64 n, .int .i64 u, .int .i64 v] ∧ Below w.heap.size w V) ⟨(rowAt _ _ (by first | rfl | simp only [World.size_alloc])), ((Below.refl _ _).alloc (by first | exact Nat.le_refl _ | (simp only [World.size_alloc]; omega)) _)⟩ ?_
 intro W1 s1
 have HS1 := Lib.hid s1
 clear s1
 refine wp_region_held_drew (S := fun V => Row V (w.heap.size) 57 [.int .i64 a, .int .i64 b, .int .i64 c, .int .i64 d, .int .i64 x, .int .i64 y, .int .i64 k, .int .i64 l, .int .i64 m, .int .i64 n, .int .i64 u, .int .i64 v] ∧ Below w.heap.size w V) (by kernel_rfl) ?_ (fun hHeld => ?_)
 · exact ⟨(HS1.out.1).drew, (HS1.out.2).drew⟩
 refine ta 0 5 hHeld ?_
 try simp only [zz]
 refine tk 1 6 (.agg #[.int .i64 a, .int .i64 b, .int .i64 c, .int .i64 d, .int .i64 x, .int .i64 y]) rfl (by kernel_rfl) (fun _ _ _ h => h) (by kernel_rfl) (fun V hV => ex_Signal _ rfl (w.heap.size) 0 rfl ((hV.1).cell 0) ((hV.1).cell 1) ((hV.1).cell 2) ((hV.1).cell 3) ((hV.1).cell 4) ((hV.1).cell 5)) hHeld ?_
 try simp only [zz]
 refine ta 3 8 hHeld ?_
 try simp only [zz]
 refine tk 4 9 (.agg #[.int .i64 k, .int .i64 l, .int .i64 m, .int .i64 n, .int .i64 u, .int .i64 v]) rfl (by kernel_rfl) (fun _ _ _ h => h) (by kernel_rfl) (fun V hV => ex_Signal _ rfl (w.heap.size) 6 rfl ((hV.1).cell 6) ((hV.1).cell 7) ((hV.1).cell 8) ((hV.1).cell 9) ((hV.1).cell 10) ((hV.1).cell 11)) hHeld ?_
 try simp only [zz]
 refine ta 6 11 hHeld ?_
 try simp only [zz]
 refine st2 2 (fun K hK => ?_)
 go_simp
 go_at_call 44
 refine (HC1.out _).mono ?_
 rintro e v2 ⟨rfl, hb2⟩
 try go_simp
 refine hK.out _ _ ?_ (fun hHeld => ?_)
 · exact ⟨(hHeld.1).old hb2, (hHeld.2).trans ((hb2).mono (hHeld.2).size)⟩
 clear hK K
 try simp only [zz]
 refine st2 5 (fun K hK => ?_)
 go_simp
 go_at_call 44
 refine (HC2.out _).mono ?_
 rintro e v5 ⟨rfl, hb5⟩
 try go_simp
 refine hK.out _ _ ?_ (fun hHeld => ?_)
 · exact ⟨(hHeld.1).old hb5, (hHeld.2).trans ((hb5).mono (hHeld.2).size)⟩
 clear hK K
 try simp only [zz]
 refine st2 7 (fun K hK => ?_)
 go_simp
 go_at_call 86
 refine (between_any t 1000 10000 _).mono ?_
 rintro e v7 ⟨rfl, rfl⟩
 try go_simp
 refine hK.out _ _ ?_ (fun hHeld => ?_)
 · exact hHeld
 clear hK K
 try simp only [zz]
 refine st2 8 (fun K hK => ?_)
 go_simp
 refine hK.out _ _ ?_ (fun hHeld => ?_)
 · exact ⟨(hHeld.1).old ((Below.refl _ _).alloc (Nat.le_refl _) _), (hHeld.2).trans ((((Below.refl _ _).alloc (Nat.le_refl _) _)).mono (hHeld.2).size)⟩
 clear hK K
 try simp only [zz]
 refine st2 9 (fun K hK => ?_)
 go_simp
 go_at_call 64
 refine (firstV_any _ _ _ [E1, E2, whenI (rangeB t 1000 10000) 3] _ ?_ rfl (by simp)).mono ?_
 · exact Rd.newT (t := 32)
 rintro e v99 ⟨rfl, rfl⟩
 try go_simp
 refine hK.out _ _ ?_ (fun hHeld => ?_)
 · exact hHeld
 clear hK K
 try simp only [zz]
 refine ta 10 4 hHeld ?_
 try simp only [zz]
 refine wpAnyH_done (by kernel_rfl) ?_ _
 go_wp2_with fail
 go_ret
 exact ⟨rfl, hHeld.2⟩
theorem capturedT_ok (a b c d x y k l m n u v t : Int) (w : World) (hE : firstI [sigE a b c d x y, sigE k l m n u v, whenI (rangeB t 1000 10000) 3] = 0) : Calls Tryz.prog 19 #[.agg #[.int .i64 a, .int .i64 b, .int .i64 c, .int .i64 d, .int .i64 x, .int .i64 y, .int .i64 k, .int .i64 l, .int .i64 m, .int .i64 n, .int .i64 u, .int .i64 v], .int .i64 t] w fun e w' => e = .returned (.tuple #[.int .i64 (capI (a * a + b * b) (k * k + l * l) t), .int .i64 0]) ∧ Below w.heap.size w w' := by
 obtain ⟨hs1, hs2, hs3⟩ := fI3 hE
 have hg := sig_good hs1
 have hk := sig_good hs2
 have hs3 := whenZ (by decide) hs3
 have ht : 1000 ≤ t ∧ t ≤ 10000 := by
  unfold rangeB at hs3
  simp only [Bool.or_eq_false_iff, decide_eq_false_iff_not] at hs3
  omega
 have bp := hg.sq
 have bq := hk.sq
 have HC : Hid (∀ W, Calls Tryz.prog 59 #[.agg #[.int .i64 a, .int .i64 b, .int .i64 c, .int .i64 d, .int .i64 x, .int .i64 y, .int .i64 k, .int .i64 l, .int .i64 m, .int .i64 n, .int .i64 u, .int .i64 v], .int .i64 t] W fun e w' => e = .returned (.int .i64 0) ∧ Below W.heap.size W w') := fun W => by have h := checkTwo_any a b c d x y k l m n u v t W; rw [hE] at h; exact h
 have HK : Hid (∀ W, Calls Tryz.prog 60 #[.agg #[.int .i64 a, .int .i64 b, .int .i64 c, .int .i64 d, .int .i64 x, .int .i64 y, .int .i64 k, .int .i64 l, .int .i64 m, .int .i64 n, .int .i64 u, .int .i64 v], .int .i64 t] W fun e w' => e = .returned (.int .i64 (capI (a * a + b * b) (k * k + l * l) t)) ∧ Below W.heap.size W w') := fun W => captured_any a b c d x y k l m n u v t _ _ W hg.g1 hk.g1 rfl rfl (by omega) (by omega) (by omega)
 obtain ⟨K, hK⟩ : ∃ K, K = capI (a * a + b * b) (k * k + l * l) t := ⟨_, rfl⟩
 rw [← hK] at HK ⊢
 clear hE hs1 hs2 hs3 hg hk ht bp bq hK
 go_enter Tryz.func19, Tryz.ntmps19
 go_upto_region 1 with fail
 refine genT (fun V => Row V (w.heap.size) 57 [.int .i64 a, .int .i64 b, .int .i64 c, .int .i64 d, .int .i64 x, .int .i64 y, .int .i64 k, .int .i64 l, .int .i64 m, .int .i64 n, .int .i64 u, .int .i64 v] ∧ Below w.heap.size w V) ⟨(rowAt _ _ (by first | rfl | simp only [World.size_alloc])), ((Below.refl _ _).alloc (by first | exact Nat.le_refl _ | (simp only [World.size_alloc]; omega)) _)⟩ ?_
 intro W1 s1
 have HS1 := Lib.hid s1
 clear s1
 go_wp2_with (first | (refine wpList_load_row rfl 57 _ rfl (w.heap.size) rfl 57 #[.int .i64 a, .int .i64 b, .int .i64 c, .int .i64 d, .int .i64 x, .int .i64 y, .int .i64 k, .int .i64 l, .int .i64 m, .int .i64 n, .int .i64 u, .int .i64 v] (0, 0) _ HS2.out.1 Tryz.underlying57 rfl ?_ ?_; (kernel_rfl)) | (refine wpList_load_row rfl 57 _ rfl (w.heap.size) rfl 57 #[.int .i64 a, .int .i64 b, .int .i64 c, .int .i64 d, .int .i64 x, .int .i64 y, .int .i64 k, .int .i64 l, .int .i64 m, .int .i64 n, .int .i64 u, .int .i64 v] (0, 0) _ HS1.out.1 Tryz.underlying57 rfl ?_ ?_; (kernel_rfl)) | (go_at_call 59; refine (HC.out _).mono ?_; rintro e w2 ⟨rfl, hb_w2⟩; have HS2 : Hid (Row w2 (w.heap.size) 57 [.int .i64 a, .int .i64 b, .int .i64 c, .int .i64 d, .int .i64 x, .int .i64 y, .int .i64 k, .int .i64 l, .int .i64 m, .int .i64 n, .int .i64 u, .int .i64 v] ∧ Below w.heap.size w w2) := ⟨(HS1.out.1).old hb_w2, (HS1.out.2).trans (hb_w2.mono (HS1.out.2).size)⟩; clear hb_w2) | (go_at_call 60; refine (HK.out _).mono ?_; rintro e w3 ⟨rfl, hb_w3⟩; have HS3 : Hid (Row w3 (w.heap.size) 57 [.int .i64 a, .int .i64 b, .int .i64 c, .int .i64 d, .int .i64 x, .int .i64 y, .int .i64 k, .int .i64 l, .int .i64 m, .int .i64 n, .int .i64 u, .int .i64 v] ∧ Below w.heap.size w w3) := ⟨(HS2.out.1).old hb_w3, (HS2.out.2).trans (hb_w3.mono (HS2.out.2).size)⟩; clear hb_w3))
 go_ret2
 exact ⟨rfl, HS3.out.2⟩
end Go.Proofs.YtaknlhepgeiekaaGreatDoor
