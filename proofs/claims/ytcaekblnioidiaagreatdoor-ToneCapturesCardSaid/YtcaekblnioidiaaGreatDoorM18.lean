import Derived.Test.YtcaekblnioidiaaGreatDoorM15
namespace Go.Proofs.YtcaekblnioidiaaGreatDoor
set_option linter.all false
open Go.RowKit Go.Fl
theorem flat_getS {α : Type} (f : α → List Value) (m : Nat) (hf : ∀ x, (f x).length = m) (l : List α) (k : Nat) (hk : k < l.length) (j : Nat) (hj : j < m) : (l.flatMap f)[k * m + j]? = (f l[k])[j]? := by
 induction l generalizing k with
 | nil => simp at hk
 | cons p l ih =>
   cases k with
   | zero =>
     rw [List.flatMap_cons, Nat.zero_mul, Nat.zero_add, List.getElem?_append_left (by rw [hf]; exact hj)]; rfl
   | succ k =>
     have e : (k + 1) * m + j = m + (k * m + j) := by rw [Nat.succ_mul]; omega
     rw [List.flatMap_cons, e, List.getElem?_append_right (by rw [hf]; omega), hf, Nat.add_sub_cancel_left]
     exact ih k (by simpa using hk)
structure Sg where
 a : Int
 b : Int
 c : Int
 d : Int
 x : Int
 y : Int
def Sg.L (s : Sg) : List Value := [.int .i64 s.a, .int .i64 s.b, .int .i64 s.c, .int .i64 s.d, .int .i64 s.x, .int .i64 s.y]
def sgE (s : Sg) : Int := sigE s.a s.b s.c s.d s.x s.y
def sgC (l : List Sg) : List Value := l.flatMap Sg.L
theorem Rd.sg {w : World} {A : Option Addr} {l : List Sg} (h : Rd w A (sgC l)) {k : Nat} (hk : k < l.length) : ∃ b off, A = some ⟨b, off, none⟩ ∧ w.cell? ⟨b, off + k * 6, none⟩ = some (.int .i64 l[k].a) ∧ w.cell? ⟨b, off + k * 6 + 1, none⟩ = some (.int .i64 l[k].b) ∧ w.cell? ⟨b, off + k * 6 + 2, none⟩ = some (.int .i64 l[k].c) ∧ w.cell? ⟨b, off + k * 6 + 3, none⟩ = some (.int .i64 l[k].d) ∧ w.cell? ⟨b, off + k * 6 + 4, none⟩ = some (.int .i64 l[k].x) ∧ w.cell? ⟨b, off + k * 6 + 5, none⟩ = some (.int .i64 l[k].y) := by
 have g := fun j hj => flat_getS Sg.L 6 (fun _ => rfl) l k hk j hj
 obtain ⟨b, o, e, c0⟩ := h (k * 6 + 0) _ (g 0 (by decide))
 have st : ∀ j v, (sgC l)[k * 6 + j]? = some v → w.cell? ⟨b, o + k * 6 + j, none⟩ = some v := fun j v hv => by
  obtain ⟨b', o', e', c⟩ := h _ _ hv
  rw [e] at e'
  cases e'
  rw [Nat.add_assoc]; exact c
 exact ⟨b, o, e, st 0 _ (g 0 (by decide)), st 1 _ (g 1 (by decide)), st 2 _ (g 2 (by decide)), st 3 _ (g 3 (by decide)), st 4 _ (g 4 (by decide)), st 5 _ (g 5 (by decide))⟩
def sgsE (l : List Sg) : Int := firstI [whenI (decide (l.length = 0)) 12, if 256 < l.length then 5 else firstI (l.map sgE)]
set_option maxRecDepth 100000 in
set_option maxHeartbeats 1000000 in
theorem mappedS_any (A : Option Addr) (c : Nat) (l : List Sg) (w : World) (hA : Rd w A (sgC l)) (hm : l.length ≤ 1000) :
 Calls Tryz.prog 180 #[.slice A l.length c, .func (.func 20) #[] #[]] w fun e w' => ∃ g, e = .returned (.slice (some ⟨g, 0, none⟩) l.length l.length) ∧ Row w' g 29 (ints (l.map sgE)) ∧ w.heap.size ≤ g ∧ Below w.heap.size w w' := by
 have hmk := fun W : World => make1 (P := Tryz.prog) 211 29 (.int .i64 0) 8 Tryz.underlying211 info27 rfl l.length (by omega) (by omega) W
 go_enter Tryz.func180, Tryz.ntmps180
 go_wp2
 go_loopw [13] (fun i wr => ∃ k : Nat, k ≤ l.length ∧ i = .int .i64 k ∧ Row wr w.heap.size 29 (ints ((l.map sgE).take k) ++ List.replicate (l.length - k) (.int .i64 0)) ∧ Below w.heap.size w wr) (fun i _ => l.length - (intOf i).toNat)
 case atStart => exact ⟨0, Nat.zero_le _, rfl, by have := Row.new w 29 (List.replicate l.length (.int .i64 0)); simpa [ints] using this, (Below.refl _ _).alloc (Nat.le_refl _) _⟩
 case round =>
  obtain ⟨k, hk, rfl, hrow, hb⟩ := hrel
  by_cases hlt : k < l.length
  · obtain ⟨b0, off, rfl, q0, q1, q2, q3, q4, q5⟩ := Rd.sg (hA.below hb) hlt
    have hset := Lib.hid (part_set (l.map sgE) l.length k (by simpa using hlt) (by simp))
    have hfk := Lib.hid (show (l.map sgE)[k]'(by simpa using hlt) = sgE l[k] by simp)
    obtain ⟨⟨a, b, cc, d, x, y⟩, hs⟩ : ∃ s, s = l[k] := ⟨_, rfl⟩
    rw [← hs] at q0 q1 q2 q3 q4 q5 hfk
    dsimp only at q0 q1 q2 q3 q4 q5
    have HP : Hid (∀ W, Calls Tryz.prog 20 #[.agg #[.int .i64 a, .int .i64 b, .int .i64 cc, .int .i64 d, .int .i64 x, .int .i64 y]] W fun e w' => e = .returned (.int .i64 (sigE a b cc d x y)) ∧ Below W.heap.size W w') := fun W => checkSignal_any a b cc d x y W
    have hbn : Below wr.heap.size wr ((wr.alloc (.cells #[.int .i64 0, .int .i64 0, .int .i64 0, .int .i64 0, .int .i64 0, .int .i64 0] 32)).setRow wr.heap.size #[.int .i64 a, .int .i64 b, .int .i64 cc, .int .i64 d, .int .i64 x, .int .i64 y]) := Below.setRow ((Below.refl _ _).alloc (Nat.le_refl _) _) (Nat.le_refl _) _
    have Hrow := Lib.hid (hrow.old hbn)
    have Hb := Lib.hid (hb.trans (hbn.mono hb.size))
    have Hn : Hid (Row ((wr.alloc (.cells #[.int .i64 0, .int .i64 0, .int .i64 0, .int .i64 0, .int .i64 0, .int .i64 0] 32)).setRow wr.heap.size #[.int .i64 a, .int .i64 b, .int .i64 cc, .int .i64 d, .int .i64 x, .int .i64 y]) wr.heap.size 32 [.int .i64 a, .int .i64 b, .int .i64 cc, .int .i64 d, .int .i64 x, .int .i64 y]) := (Row.new wr 32 [.int .i64 0, .int .i64 0, .int .i64 0, .int .i64 0, .int .i64 0, .int .i64 0]).setRow _
    have hfk2 : Hid ((l.map sgE)[k]'(by simpa using hlt) = sigE a b cc d x y) := hfk.out
    obtain ⟨E1, hE1⟩ : ∃ E1, E1 = sigE a b cc d x y := ⟨_, rfl⟩
    rw [← hE1] at HP hfk2
    clear hrow hb hs hbn hE1 hfk
    go_wp2_with (first
     | (refine wpList_store_row rfl 32 _ _ rfl (wr.heap.size) #[.int .i64 a, .int .i64 b, .int .i64 cc, .int .i64 d, .int .i64 x, .int .i64 y] rfl rfl 32 _ (Row.new wr 32 [.int .i64 0, .int .i64 0, .int .i64 0, .int .i64 0, .int .i64 0, .int .i64 0]) ?_ ?_ ?_ ?_; (kernel_rfl); (rfl); (simp [Value.oneCell']))
     | (refine wpList_load_row rfl 32 _ rfl (wr.heap.size) rfl 32 #[.int .i64 a, .int .i64 b, .int .i64 cc, .int .i64 d, .int .i64 x, .int .i64 y] (0, 0) _ Hn.out Tryz.underlying32 rfl ?_ ?_; (kernel_rfl)))
    refine (HP.out _).mono ?_
    rintro e w1 ⟨rfl, hb1⟩
    have Hrow1 := Lib.hid (Hrow.out.old hb1)
    have hc1 : w1.cell? ⟨w.heap.size, k, none⟩ = some (.int .i64 0) := by
     rw [Hrow1.out.cell]
     exact mid_get _ _ _ _ (by simp [ints]; omega) hlt
    have hf1 := Hrow1.out.free k
    have Hb1 := Lib.hid (Hb.out.trans (hb1.mono Hb.out.size))
    clear hb1 q0 q1 q2 q3 q4 q5
    go_wp2
    go_roundw
    case rel => exact ⟨k + 1, by omega, by go_num, by rw [← hset.out, hfk2.out]; exact Hrow1.out.set k _, Hb1.out.setCell (by simp) _⟩
    case measure => simp [intOf]; omega
  · obtain rfl : k = l.length := by omega
    go_wp2
    go_ret
    exact ⟨_, rfl, by rw [Nat.sub_self, List.replicate_zero, List.append_nil, List.take_of_length_le (by simp)] at hrow; exact hrow, Nat.le_refl _, hb⟩
set_option maxRecDepth 100000 in
set_option maxHeartbeats 1000000 in
theorem checkListS_any (A : Option Addr) (c : Nat) (l : List Sg) (w : World) (hA : Rd w A (sgC l)) (hm : l.length ≤ 1000000) :
 Calls Tryz.prog 150 #[.slice A l.length c, .int .i64 256, .func (.func 20) #[] #[]] w fun e w' => e = .returned (.int .i64 (if 256 < l.length then 5 else firstI (l.map sgE))) ∧ Below w.heap.size w w' := by
 by_cases h : 256 < l.length
 · have h1 : decide ((256 : Int) < (l.length : Int)) = true := by simpa using (by omega : (256 : Int) < (l.length : Int))
   rw [if_pos h]
   have H := Lib.hid h
   have h2 : (256 : Int) < (l.length : Int) := by omega
   clear h
   go_enter Tryz.func150, Tryz.ntmps150
   go_wp2
   go_ret
   exact ⟨rfl, Below.refl _ _⟩
 · have h1 : decide ((256 : Int) < (l.length : Int)) = false := by simpa using (by omega : (l.length : Int) ≤ (256 : Int))
   rw [if_neg h]
   have h2 : ¬ (256 : Int) < (l.length : Int) := by omega
   have HM := Lib.hid (mappedS_any A c l w hA (by omega))
   have HL : Hid (l.length ≤ 256) := by show _ ≤ _; omega
   clear h hA hm
   go_enter Tryz.func150, Tryz.ntmps150
   go_wp2_with fail
   refine HM.out.mono ?_
   rintro e w1 ⟨g, rfl, hrow, hg, hb⟩
   have HB1 := Lib.hid hb
   clear hb
   go_wp2_with fail
   refine (firstV_any _ _ _ (l.map sgE) _ (Rd.row hrow) (by simp) (by have := HL.out; simp; omega)).mono ?_
   rintro e w2 ⟨rfl, rfl⟩
   go_wp2
   go_ret
   exact ⟨rfl, HB1.out⟩
set_option maxRecDepth 100000 in
set_option maxHeartbeats 1000000 in
theorem checkSignals_any (A : Option Addr) (c : Nat) (l : List Sg) (w : World) (hA : Rd w A (sgC l)) (hm : l.length ≤ 1000000) :
 Calls Tryz.prog 103 #[.slice A l.length c] w fun e w' => e = .returned (.int .i64 (sgsE l)) ∧ Below w.heap.size w w' := by
 have HC := Lib.hid (checkListS_any A c l w hA hm)
 unfold sgsE
 obtain ⟨E2, hE2⟩ : ∃ E2, E2 = (if 256 < l.length then 5 else firstI (l.map sgE)) := ⟨_, rfl⟩
 rw [← hE2] at HC ⊢
 obtain ⟨zb, hzb⟩ : ∃ zb, zb = decide (l.length = 0) := ⟨_, rfl⟩
 rw [← hzb]
 obtain ⟨n, hn⟩ : ∃ n, n = l.length := ⟨_, rfl⟩
 rw [← hn] at HC hzb ⊢
 have z1 : ((n : Int) == 0) = zb := by
  rw [hzb]; cases n <;> simp
  omega
 have z2 : decide (n = 0) = zb := hzb.symm
 clear hE2 hzb hn hA hm
 go_enter Tryz.func103, Tryz.ntmps103
 go_wp2_with (first
  | (go_at_call 82; refine (failed_any zb 12 _).mono ?_; rintro e w' ⟨rfl, rfl⟩)
  | (go_at_call 150; refine HC.out.mono ?_; rintro e w1 ⟨rfl, hb1⟩; have HB1 := Lib.hid hb1; clear hb1)
  | (go_at_call 80; refine (firstV_any _ _ _ [whenI zb 12, E2] _ Rd.newT rfl (by simp)).mono ?_; rintro e w2 ⟨rfl, rfl⟩))
 go_ret
 exact ⟨rfl, HB1.out.alloc HB1.out.size _⟩
theorem ex_Signal {o : Oper} {a : Act} {w : World} {u0 u1 u2 u3 u4 u5 : Value} (x : Operand) (ho : o.op = .load 32 x) (g off : Nat) (hx : a.eval x = .pointer (some ⟨g, off, none⟩)) (c0 : w.cell? ⟨g, off, none⟩ = some u0) (c1 : w.cell? ⟨g, off + 1, none⟩ = some u1) (c2 : w.cell? ⟨g, off + 2, none⟩ = some u2) (c3 : w.cell? ⟨g, off + 3, none⟩ = some u3) (c4 : w.cell? ⟨g, off + 4, none⟩ = some u4) (c5 : w.cell? ⟨g, off + 5, none⟩ = some u5) :
 (execOp a.eval o).run Tryz.prog w = .ok (.value (.agg #[u0, u1, u2, u3, u4, u5])) w := by
 unfold execOp
 simp only [ho, hx]
 go_simp
def capI (p q t : Int) : Int := if q * t ≤ p * 1000 then 0 else if p * t ≤ q * 1000 then 1 else 2
set_option maxRecDepth 100000 in
set_option maxHeartbeats 1000000 in
theorem captures_any (a b c d x y k l m n u v t p q : Int) (w : World) (h1 : Gs a b) (h2 : Gs k l) (hp : p = a * a + b * b) (hq : q = k * k + l * l) (bp : p.natAbs ≤ 1000000000) (bq : q.natAbs ≤ 1000000000) (ht : 0 ≤ t ∧ t ≤ 10000) : Calls Tryz.prog 144 #[.agg #[.int .i64 a, .int .i64 b, .int .i64 c, .int .i64 d, .int .i64 x, .int .i64 y], .agg #[.int .i64 k, .int .i64 l, .int .i64 m, .int .i64 n, .int .i64 u, .int .i64 v], .int .i64 t] w fun e w' => e = .returned (.bool (decide (q * t ≤ p * 1000))) ∧ Below w.heap.size w w' := by
 have HP : Hid (∀ W, Calls Tryz.prog 136 #[.agg #[.int .i64 a, .int .i64 b, .int .i64 c, .int .i64 d, .int .i64 x, .int .i64 y]] W fun e w' => e = .returned (.int .i64 p) ∧ Below W.heap.size W w') := fun W => by rw [hp]; exact squareS_any a b c d x y W h1
 have HQ : Hid (∀ W, Calls Tryz.prog 136 #[.agg #[.int .i64 k, .int .i64 l, .int .i64 m, .int .i64 n, .int .i64 u, .int .i64 v]] W fun e w' => e = .returned (.int .i64 q) ∧ Below W.heap.size W w') := fun W => by rw [hq]; exact squareS_any k l m n u v W h2
 have b1 : (q * t).natAbs ≤ 1000000000 * 10000 := by rw [Int.natAbs_mul]; exact Nat.mul_le_mul bq (by omega)
 have e1 : IntKind.i64.wrap (p * 1000) = p * 1000 := IntWalk.i64_in _ (by omega)
 have e2 : IntKind.i64.wrap (q * t) = q * t := IntWalk.i64_in _ (by omega)
 clear h1 h2 hp hq bp bq ht b1
 go_enter Tryz.func144, Tryz.ntmps144
 go_upto_region 1 with fail
 refine genT (fun V => Row V (w.heap.size) 32 [.int .i64 a, .int .i64 b, .int .i64 c, .int .i64 d, .int .i64 x, .int .i64 y] ∧ Row V (w.heap.size + 1) 32 [.int .i64 k, .int .i64 l, .int .i64 m, .int .i64 n, .int .i64 u, .int .i64 v] ∧ Below w.heap.size w V) ⟨(Row.alloc (rowAt _ _ (by first | rfl | simp only [World.size_alloc])) _), (rowAt _ _ (by first | rfl | simp only [World.size_alloc])), (((Below.refl _ _).alloc (by first | exact Nat.le_refl _ | (simp only [World.size_alloc]; omega)) _).alloc (by first | exact Nat.le_refl _ | (simp only [World.size_alloc]; omega)) _)⟩ ?_
 intro W1 s1
 have HS1 := Lib.hid s1
 clear s1
 refine wp_region_held_drew (S := fun V => Row V (w.heap.size) 32 [.int .i64 a, .int .i64 b, .int .i64 c, .int .i64 d, .int .i64 x, .int .i64 y] ∧ Row V (w.heap.size + 1) 32 [.int .i64 k, .int .i64 l, .int .i64 m, .int .i64 n, .int .i64 u, .int .i64 v] ∧ Below w.heap.size w V) (by kernel_rfl) ?_ (fun hHeld => ?_)
 · exact ⟨(HS1.out.1).drew, (HS1.out.2.1).drew, (HS1.out.2.2).drew⟩
 refine tk 0 7 (.agg #[.int .i64 a, .int .i64 b, .int .i64 c, .int .i64 d, .int .i64 x, .int .i64 y]) rfl (by kernel_rfl) (fun _ _ _ h => h) (by kernel_rfl) (fun V hV => ex_rowT 32 _ rfl (w.heap.size) rfl 32 [.int .i64 a, .int .i64 b, .int .i64 c, .int .i64 d, .int .i64 x, .int .i64 y] _ Tryz.underlying32 rfl (by kernel_rfl) (hV.1)) hHeld ?_
 try simp only [zz]
 refine tk 3 10 (.agg #[.int .i64 k, .int .i64 l, .int .i64 m, .int .i64 n, .int .i64 u, .int .i64 v]) rfl (by kernel_rfl) (fun _ _ _ h => h) (by kernel_rfl) (fun V hV => ex_rowT 32 _ rfl (w.heap.size + 1) rfl 32 [.int .i64 k, .int .i64 l, .int .i64 m, .int .i64 n, .int .i64 u, .int .i64 v] _ Tryz.underlying32 rfl (by kernel_rfl) (hV.2.1)) hHeld ?_
 try simp only [zz]
 refine tk 5 12 ?_ rfl (by kernel_rfl) (fun _ _ _ h => h) (by kernel_rfl) ?_ hHeld ?_
 rotate_left
 · intro w1 hSw; (try dsimp only at hSw); go_simp <;> with_reducible rfl
 try simp only [zz]
 refine st1 1 (by kernel_rfl) rfl (fun K hK => ?_)
 go_simp
 go_at_call 136
 refine (HP.out _).mono ?_
 rintro e v1 ⟨rfl, hb1⟩
 try go_simp
 refine hK.out _ _ ?_ (fun hHeld => ?_)
 · exact ⟨(hHeld.1).old hb1, (hHeld.2.1).old hb1, (hHeld.2.2).trans ((hb1).mono (hHeld.2.2).size)⟩
 clear hK K
 try simp only [zz]
 refine tk 2 9 ?_ rfl (by kernel_rfl) (fun _ _ _ h => h) (by kernel_rfl) ?_ hHeld ?_
 rotate_left
 · intro w1 hSw; (try dsimp only at hSw); go_simp <;> with_reducible rfl
 try simp only [zz]
 refine st1 4 (by kernel_rfl) rfl (fun K hK => ?_)
 go_simp
 go_at_call 136
 refine (HQ.out _).mono ?_
 rintro e v4 ⟨rfl, hb4⟩
 try go_simp
 refine hK.out _ _ ?_ (fun hHeld => ?_)
 · exact ⟨(hHeld.1).old hb4, (hHeld.2.1).old hb4, (hHeld.2.2).trans ((hb4).mono (hHeld.2.2).size)⟩
 clear hK K
 try simp only [zz]
 refine tk 6 13 ?_ rfl (by kernel_rfl) (fun _ _ _ h => h) (by kernel_rfl) ?_ hHeld ?_
 rotate_left
 · intro w1 hSw; (try dsimp only at hSw); go_simp <;> with_reducible rfl
 try simp only [zz]
 refine tk 7 14 ?_ rfl (by kernel_rfl) (fun _ _ _ h => h) (by kernel_rfl) ?_ hHeld ?_
 rotate_left
 · intro w1 hSw; (try dsimp only at hSw); go_simp <;> with_reducible rfl
 try simp only [zz]
 refine tk 8 6 ?_ rfl (by kernel_rfl) (fun _ _ _ h => h) (by kernel_rfl) ?_ hHeld ?_
 rotate_left
 · intro w1 hSw; (try dsimp only at hSw); go_simp <;> with_reducible rfl
 try simp only [zz]
 refine wpAnyH_done (by kernel_rfl) ?_ _
 go_wp2_with fail
 go_ret
 exact ⟨rfl, hHeld.2.2⟩
set_option maxRecDepth 100000 in
set_option maxHeartbeats 4000000 in
theorem captured_any (a b c d x y k l m n u v t p q : Int) (w : World) (h1 : Gs a b) (h2 : Gs k l) (hp : p = a * a + b * b) (hq : q = k * k + l * l) (bp : p.natAbs ≤ 1000000000) (bq : q.natAbs ≤ 1000000000) (ht : 0 ≤ t ∧ t ≤ 10000) : Calls Tryz.prog 92 #[.agg #[.int .i64 a, .int .i64 b, .int .i64 c, .int .i64 d, .int .i64 x, .int .i64 y, .int .i64 k, .int .i64 l, .int .i64 m, .int .i64 n, .int .i64 u, .int .i64 v], .int .i64 t] w fun e w' => e = .returned (.int .i64 (capI p q t)) ∧ Below w.heap.size w w' := by
 have hR : capI p q t = if decide (q * t ≤ p * 1000) then 0 else if decide (p * t ≤ q * 1000) then 1 else 2 := by unfold capI; simp
 obtain ⟨g0, hg0⟩ : ∃ g0, g0 = decide (q * t ≤ p * 1000) := ⟨_, rfl⟩
 obtain ⟨g1, hg1⟩ : ∃ g1, g1 = decide (p * t ≤ q * 1000) := ⟨_, rfl⟩
 rw [← hg0, ← hg1] at hR
 have HR := Lib.hid hR
 have HC0 : Hid (∀ W, Calls Tryz.prog 144 #[.agg #[.int .i64 a, .int .i64 b, .int .i64 c, .int .i64 d, .int .i64 x, .int .i64 y], .agg #[.int .i64 k, .int .i64 l, .int .i64 m, .int .i64 n, .int .i64 u, .int .i64 v], .int .i64 t] W fun e w' => e = .returned (.bool g0) ∧ Below W.heap.size W w') := fun W => by rw [hg0]; exact captures_any a b c d x y k l m n u v t p q W h1 h2 hp hq bp bq ht
 have HC1 : Hid (∀ W, Calls Tryz.prog 144 #[.agg #[.int .i64 k, .int .i64 l, .int .i64 m, .int .i64 n, .int .i64 u, .int .i64 v], .agg #[.int .i64 a, .int .i64 b, .int .i64 c, .int .i64 d, .int .i64 x, .int .i64 y], .int .i64 t] W fun e w' => e = .returned (.bool g1) ∧ Below W.heap.size W w') := fun W => by rw [hg1]; exact captures_any k l m n u v a b c d x y t q p W h2 h1 hq hp bq bp ht
 have hi0 : ∀ w, (Instr.index 54 (.agg #[.int .i64 a, .int .i64 b, .int .i64 c, .int .i64 d, .int .i64 x, .int .i64 y, .int .i64 k, .int .i64 l, .int .i64 m, .int .i64 n, .int .i64 u, .int .i64 v]) (.int .i64 0)).run Tryz.prog w = .ok (.agg #[.int .i64 a, .int .i64 b, .int .i64 c, .int .i64 d, .int .i64 x, .int .i64 y]) w := fun w => by kernel_rfl
 have hi1 : ∀ w, (Instr.index 54 (.agg #[.int .i64 a, .int .i64 b, .int .i64 c, .int .i64 d, .int .i64 x, .int .i64 y, .int .i64 k, .int .i64 l, .int .i64 m, .int .i64 n, .int .i64 u, .int .i64 v]) (.int .i64 1)).run Tryz.prog w = .ok (.agg #[.int .i64 k, .int .i64 l, .int .i64 m, .int .i64 n, .int .i64 u, .int .i64 v]) w := fun w => by kernel_rfl
 have hw1 : IntKind.i64.wrap 1 = 1 := by first | rfl | decide
 have hw0 : IntKind.i64.wrap 0 = 0 := by first | rfl | decide
 clear hR hg0 hg1 h1 h2 hp hq bp bq ht
 go_enter Tryz.func92, Tryz.ntmps92
 go_upto_region 1 with fail
 refine genT (fun V => Row V (w.heap.size) 54 [.int .i64 a, .int .i64 b, .int .i64 c, .int .i64 d, .int .i64 x, .int .i64 y, .int .i64 k, .int .i64 l, .int .i64 m, .int .i64 n, .int .i64 u, .int .i64 v] ∧ Below w.heap.size w V) ⟨(rowAt _ _ (by first | rfl | simp only [World.size_alloc])), ((Below.refl _ _).alloc (by first | exact Nat.le_refl _ | (simp only [World.size_alloc]; omega)) _)⟩ ?_
 intro W1 s1
 have HS1 := Lib.hid s1
 clear s1
 go_upto_region 2 with (refine wpList_load_row rfl 54 _ rfl (w.heap.size) rfl 54 #[.int .i64 a, .int .i64 b, .int .i64 c, .int .i64 d, .int .i64 x, .int .i64 y, .int .i64 k, .int .i64 l, .int .i64 m, .int .i64 n, .int .i64 u, .int .i64 v] (0, 0) _ HS1.out.1 Tryz.underlying54 rfl ?_ ?_; (kernel_rfl))
 go_loopg [8] 2 (fun gg s8 wx => (gg = 2 ∧ s8 = .int .i64 0 ∧ Hid (Row wx (w.heap.size) 54 [.int .i64 a, .int .i64 b, .int .i64 c, .int .i64 d, .int .i64 x, .int .i64 y, .int .i64 k, .int .i64 l, .int .i64 m, .int .i64 n, .int .i64 u, .int .i64 v] ∧ Below w.heap.size w wx)) ∨ (gg = 1 ∧ s8 = .int .i64 1 ∧ g0 = false ∧ Hid (Row wx (w.heap.size) 54 [.int .i64 a, .int .i64 b, .int .i64 c, .int .i64 d, .int .i64 x, .int .i64 y, .int .i64 k, .int .i64 l, .int .i64 m, .int .i64 n, .int .i64 u, .int .i64 v] ∧ Below w.heap.size w wx)) ∨ (gg = 0 ∧ s8 = .int .i64 2 ∧ g0 = false ∧ g1 = false ∧ Hid (Row wx (w.heap.size) 54 [.int .i64 a, .int .i64 b, .int .i64 c, .int .i64 d, .int .i64 x, .int .i64 y, .int .i64 k, .int .i64 l, .int .i64 m, .int .i64 n, .int .i64 u, .int .i64 v] ∧ Below w.heap.size w wx)))
 case atStart => exact .inl ⟨rfl, rfl, HS1⟩
 case round =>
  clear HS1
  obtain ⟨rfl, rfl, HS⟩ | ⟨rfl, rfl, rfl, HS⟩ | ⟨rfl, rfl, rfl, rfl, HS⟩ := hrel
  · have hlt : w.heap.size < wr.heap.size := HS.out.1.lt
    have hbn : Below wr.heap.size wr ((wr.alloc (.cells #[.int .i64 0, .int .i64 0, .int .i64 0, .int .i64 0, .int .i64 0, .int .i64 0] 32)).setRow wr.heap.size #[.int .i64 a, .int .i64 b, .int .i64 c, .int .i64 d, .int .i64 x, .int .i64 y]) := Below.setRow ((Below.refl _ _).alloc (Nat.le_refl _) _) (Nat.le_refl _) _
    go_upto_region 4 with (refine wpList_store_row rfl 32 _ _ rfl (wr.heap.size) #[.int .i64 a, .int .i64 b, .int .i64 c, .int .i64 d, .int .i64 x, .int .i64 y] rfl rfl 32 _ (Row.new wr 32 [.int .i64 0, .int .i64 0, .int .i64 0, .int .i64 0, .int .i64 0, .int .i64 0]) ?_ ?_ ?_ ?_; (kernel_rfl); (rfl); (simp [Value.oneCell']))
    refine genT (fun V => Row V (w.heap.size) 54 [.int .i64 a, .int .i64 b, .int .i64 c, .int .i64 d, .int .i64 x, .int .i64 y, .int .i64 k, .int .i64 l, .int .i64 m, .int .i64 n, .int .i64 u, .int .i64 v] ∧ Row V (wr.heap.size) 32 [.int .i64 a, .int .i64 b, .int .i64 c, .int .i64 d, .int .i64 x, .int .i64 y] ∧ Below w.heap.size w V) ⟨HS.out.1.old hbn, (Row.new wr 32 [.int .i64 0, .int .i64 0, .int .i64 0, .int .i64 0, .int .i64 0, .int .i64 0]).setRow _, HS.out.2.trans (hbn.mono HS.out.2.size)⟩ ?_
    clear hbn HS
    intro W2 s2
    have HS2 := Lib.hid s2
    clear s2
    refine wp_region_held_drew (S := fun V => Row V (w.heap.size) 54 [.int .i64 a, .int .i64 b, .int .i64 c, .int .i64 d, .int .i64 x, .int .i64 y, .int .i64 k, .int .i64 l, .int .i64 m, .int .i64 n, .int .i64 u, .int .i64 v] ∧ Row V (wr.heap.size) 32 [.int .i64 a, .int .i64 b, .int .i64 c, .int .i64 d, .int .i64 x, .int .i64 y] ∧ Below w.heap.size w V) (by kernel_rfl) ?_ (fun hHeld => ?_)
    · exact ⟨(HS2.out.1).drew, (HS2.out.2.1).drew, (HS2.out.2.2).drew⟩
    refine tk 0 12 (.agg #[.int .i64 a, .int .i64 b, .int .i64 c, .int .i64 d, .int .i64 x, .int .i64 y]) rfl (by kernel_rfl) (fun _ _ _ h => h) (by kernel_rfl) (fun V hV => ex_rowT 32 _ rfl (wr.heap.size) rfl 32 [.int .i64 a, .int .i64 b, .int .i64 c, .int .i64 d, .int .i64 x, .int .i64 y] _ Tryz.underlying32 rfl (by kernel_rfl) (hV.2.1)) hHeld ?_
    try simp only [zz]
    refine tk 1 13 ?_ rfl (by kernel_rfl) (fun _ _ _ h => h) (by kernel_rfl) ?_ hHeld ?_
    rotate_left
    · intro w1 hSw; (try dsimp only at hSw); go_simp <;> with_reducible rfl
    try simp only [zz]
    refine tk 2 14 ?_ rfl (by kernel_rfl) (fun _ _ _ h => h) (by kernel_rfl) ?_ hHeld ?_
    rotate_left
    · intro w1 hSw; (try dsimp only at hSw); go_simp <;> with_reducible rfl
    try simp only [zz]
    refine tk 3 15 ?_ rfl (by kernel_rfl) (fun _ _ _ h => h) (by kernel_rfl) ?_ hHeld ?_
    rotate_left
    · intro w1 hSw; (try dsimp only at hSw); go_simp <;> with_reducible rfl
    try simp only [zz]
    refine tk 4 16 (.agg #[.int .i64 k, .int .i64 l, .int .i64 m, .int .i64 n, .int .i64 u, .int .i64 v]) rfl (by kernel_rfl) (fun _ _ _ h => h) (by kernel_rfl) (fun V hV => ex_Signal _ rfl (w.heap.size) 6 rfl ((hV.1).cell 6) ((hV.1).cell 7) ((hV.1).cell 8) ((hV.1).cell 9) ((hV.1).cell 10) ((hV.1).cell 11)) hHeld ?_
    try simp only [zz]
    refine tk 5 17 ?_ rfl (by kernel_rfl) (fun _ _ _ h => h) (by kernel_rfl) ?_ hHeld ?_
    rotate_left
    · intro w1 hSw; (try dsimp only at hSw); go_simp <;> with_reducible rfl
    try simp only [zz]
    refine st1 6 (by kernel_rfl) rfl (fun K hK => ?_)
    go_simp
    go_at_call 144
    refine (HC0.out _).mono ?_
    rintro e v6 ⟨rfl, hb6⟩
    try go_simp
    refine hK.out _ _ ?_ (fun hHeld => ?_)
    · exact ⟨(hHeld.1).old hb6, (hHeld.2.1).old hb6, (hHeld.2.2).trans ((hb6).mono (hHeld.2.2).size)⟩
    clear hK K
    try simp only [zz]
    refine wpAnyH_done (by kernel_rfl) ?_ _
    cases g0 with
    | true =>
      go_wp2_with fail
      go_ret
      exact ⟨by rw [HR.out]; rfl, hHeld.2.2⟩
    | false =>
      go_wp2_with fail
      go_roundg 1
      case measure => omega
      case rel => exact .inr (.inl ⟨rfl, rfl, (by first | rfl | trivial), ⟨hHeld.1, hHeld.2.2⟩⟩)
  · have hlt : w.heap.size < wr.heap.size := HS.out.1.lt
    have hbn : Below wr.heap.size wr ((wr.alloc (.cells #[.int .i64 0, .int .i64 0, .int .i64 0, .int .i64 0, .int .i64 0, .int .i64 0] 32)).setRow wr.heap.size #[.int .i64 k, .int .i64 l, .int .i64 m, .int .i64 n, .int .i64 u, .int .i64 v]) := Below.setRow ((Below.refl _ _).alloc (Nat.le_refl _) _) (Nat.le_refl _) _
    go_upto_region 4 with (refine wpList_store_row rfl 32 _ _ rfl (wr.heap.size) #[.int .i64 k, .int .i64 l, .int .i64 m, .int .i64 n, .int .i64 u, .int .i64 v] rfl rfl 32 _ (Row.new wr 32 [.int .i64 0, .int .i64 0, .int .i64 0, .int .i64 0, .int .i64 0, .int .i64 0]) ?_ ?_ ?_ ?_; (kernel_rfl); (rfl); (simp [Value.oneCell']))
    refine genT (fun V => Row V (w.heap.size) 54 [.int .i64 a, .int .i64 b, .int .i64 c, .int .i64 d, .int .i64 x, .int .i64 y, .int .i64 k, .int .i64 l, .int .i64 m, .int .i64 n, .int .i64 u, .int .i64 v] ∧ Row V (wr.heap.size) 32 [.int .i64 k, .int .i64 l, .int .i64 m, .int .i64 n, .int .i64 u, .int .i64 v] ∧ Below w.heap.size w V) ⟨HS.out.1.old hbn, (Row.new wr 32 [.int .i64 0, .int .i64 0, .int .i64 0, .int .i64 0, .int .i64 0, .int .i64 0]).setRow _, HS.out.2.trans (hbn.mono HS.out.2.size)⟩ ?_
    clear hbn HS
    intro W2 s2
    have HS2 := Lib.hid s2
    clear s2
    refine wp_region_held_drew (S := fun V => Row V (w.heap.size) 54 [.int .i64 a, .int .i64 b, .int .i64 c, .int .i64 d, .int .i64 x, .int .i64 y, .int .i64 k, .int .i64 l, .int .i64 m, .int .i64 n, .int .i64 u, .int .i64 v] ∧ Row V (wr.heap.size) 32 [.int .i64 k, .int .i64 l, .int .i64 m, .int .i64 n, .int .i64 u, .int .i64 v] ∧ Below w.heap.size w V) (by kernel_rfl) ?_ (fun hHeld => ?_)
    · exact ⟨(HS2.out.1).drew, (HS2.out.2.1).drew, (HS2.out.2.2).drew⟩
    refine tk 0 12 (.agg #[.int .i64 k, .int .i64 l, .int .i64 m, .int .i64 n, .int .i64 u, .int .i64 v]) rfl (by kernel_rfl) (fun _ _ _ h => h) (by kernel_rfl) (fun V hV => ex_rowT 32 _ rfl (wr.heap.size) rfl 32 [.int .i64 k, .int .i64 l, .int .i64 m, .int .i64 n, .int .i64 u, .int .i64 v] _ Tryz.underlying32 rfl (by kernel_rfl) (hV.2.1)) hHeld ?_
    try simp only [zz]
    refine tk 1 13 ?_ rfl (by kernel_rfl) (fun _ _ _ h => h) (by kernel_rfl) ?_ hHeld ?_
    rotate_left
    · intro w1 hSw; (try dsimp only at hSw); go_simp <;> with_reducible rfl
    try simp only [zz]
    refine tk 2 14 ?_ rfl (by kernel_rfl) (fun _ _ _ h => h) (by kernel_rfl) ?_ hHeld ?_
    rotate_left
    · intro w1 hSw; (try dsimp only at hSw); go_simp <;> with_reducible rfl
    try simp only [zz]
    refine tk 3 15 ?_ rfl (by kernel_rfl) (fun _ _ _ h => h) (by kernel_rfl) ?_ hHeld ?_
    rotate_left
    · intro w1 hSw; (try dsimp only at hSw); go_simp <;> with_reducible rfl
    try simp only [zz]
    refine tk 4 16 (.agg #[.int .i64 a, .int .i64 b, .int .i64 c, .int .i64 d, .int .i64 x, .int .i64 y]) rfl (by kernel_rfl) (fun _ _ _ h => h) (by kernel_rfl) (fun V hV => ex_Signal _ rfl (w.heap.size) 0 rfl ((hV.1).cell 0) ((hV.1).cell 1) ((hV.1).cell 2) ((hV.1).cell 3) ((hV.1).cell 4) ((hV.1).cell 5)) hHeld ?_
    try simp only [zz]
    refine tk 5 17 ?_ rfl (by kernel_rfl) (fun _ _ _ h => h) (by kernel_rfl) ?_ hHeld ?_
    rotate_left
    · intro w1 hSw; (try dsimp only at hSw); go_simp <;> with_reducible rfl
    try simp only [zz]
    refine st1 6 (by kernel_rfl) rfl (fun K hK => ?_)
    go_simp
    go_at_call 144
    refine (HC1.out _).mono ?_
    rintro e v6 ⟨rfl, hb6⟩
    try go_simp
    refine hK.out _ _ ?_ (fun hHeld => ?_)
    · exact ⟨(hHeld.1).old hb6, (hHeld.2.1).old hb6, (hHeld.2.2).trans ((hb6).mono (hHeld.2.2).size)⟩
    clear hK K
    try simp only [zz]
    refine wpAnyH_done (by kernel_rfl) ?_ _
    cases g1 with
    | true =>
      go_wp2_with fail
      go_ret
      exact ⟨by rw [HR.out]; rfl, hHeld.2.2⟩
    | false =>
      go_wp2_with fail
      go_roundg 0
      case measure => omega
      case rel => exact .inr (.inr ⟨rfl, rfl, (by first | rfl | trivial), (by first | rfl | trivial), ⟨hHeld.1, hHeld.2.2⟩⟩)
  · go_wp2_with fail
    go_ret
    exact ⟨by rw [HR.out]; rfl, HS.out.2⟩
theorem SigG.sq {a b c d x y : Int} (h : SigG a b c d x y) : (a * a + b * b).natAbs ≤ 200000000 := by
 have ha := h.pa; have hb := h.pb
 have b1 : (a * a).natAbs ≤ 10000 * 10000 := by rw [Int.natAbs_mul]; exact Nat.mul_le_mul (by omega) (by omega)
 have b2 : (b * b).natAbs ≤ 10000 * 10000 := by rw [Int.natAbs_mul]; exact Nat.mul_le_mul (by omega) (by omega)
 omega
set_option maxRecDepth 100000 in
set_option maxHeartbeats 1000000 in
theorem checkTwo_any (a b c d x y k l m n u v t : Int) (w : World) : Calls Tryz.prog 91 #[.agg #[.int .i64 a, .int .i64 b, .int .i64 c, .int .i64 d, .int .i64 x, .int .i64 y, .int .i64 k, .int .i64 l, .int .i64 m, .int .i64 n, .int .i64 u, .int .i64 v], .int .i64 t] w fun e w' => e = .returned (.int .i64 (firstI [sigE a b c d x y, sigE k l m n u v, whenI (rangeB t 1000 10000) 3])) ∧ Below w.heap.size w w' := by
 obtain ⟨E1, hE1⟩ : ∃ E1, E1 = sigE a b c d x y := ⟨_, rfl⟩
 obtain ⟨E2, hE2⟩ : ∃ E2, E2 = sigE k l m n u v := ⟨_, rfl⟩
 have HC1 : Hid (∀ W, Calls Tryz.prog 20 #[.agg #[.int .i64 a, .int .i64 b, .int .i64 c, .int .i64 d, .int .i64 x, .int .i64 y]] W fun e w' => e = .returned (.int .i64 E1) ∧ Below W.heap.size W w') := fun W => by rw [hE1]; exact checkSignal_any a b c d x y W
 have HC2 : Hid (∀ W, Calls Tryz.prog 20 #[.agg #[.int .i64 k, .int .i64 l, .int .i64 m, .int .i64 n, .int .i64 u, .int .i64 v]] W fun e w' => e = .returned (.int .i64 E2) ∧ Below W.heap.size W w') := fun W => by rw [hE2]; exact checkSignal_any k l m n u v W
 rw [← hE1, ← hE2]
 clear hE1 hE2
 go_enter Tryz.func91, Tryz.ntmps91
 go_upto_region 1 with fail
 refine genT (fun V => Row V (w.heap.size) 54 [.int .i64 a, .int .i64 b, .int .i64 c, .int .i64 d, .int .i64 x, .int .i64 y, .int .i64 k, .int .i64 l, .int .i64 m, .int .i64 n, .int .i64 u, .int .i64 v] ∧ Below w.heap.size w V) ⟨(rowAt _ _ (by first | rfl | simp only [World.size_alloc])), ((Below.refl _ _).alloc (by first | exact Nat.le_refl _ | (simp only [World.size_alloc]; omega)) _)⟩ ?_
 intro W1 s1
 have HS1 := Lib.hid s1
 clear s1
 refine wp_region_held_drew (S := fun V => Row V (w.heap.size) 54 [.int .i64 a, .int .i64 b, .int .i64 c, .int .i64 d, .int .i64 x, .int .i64 y, .int .i64 k, .int .i64 l, .int .i64 m, .int .i64 n, .int .i64 u, .int .i64 v] ∧ Below w.heap.size w V) (by kernel_rfl) ?_ (fun hHeld => ?_)
 · exact ⟨(HS1.out.1).drew, (HS1.out.2).drew⟩
 refine tk 0 5 ?_ rfl (by kernel_rfl) (fun _ _ _ h => h) (by kernel_rfl) ?_ hHeld ?_
 rotate_left
 · intro w1 hSw; (try dsimp only at hSw); go_simp <;> with_reducible rfl
 try simp only [zz]
 refine tk 1 6 (.agg #[.int .i64 a, .int .i64 b, .int .i64 c, .int .i64 d, .int .i64 x, .int .i64 y]) rfl (by kernel_rfl) (fun _ _ _ h => h) (by kernel_rfl) (fun V hV => ex_Signal _ rfl (w.heap.size) 0 rfl ((hV.1).cell 0) ((hV.1).cell 1) ((hV.1).cell 2) ((hV.1).cell 3) ((hV.1).cell 4) ((hV.1).cell 5)) hHeld ?_
 try simp only [zz]
 refine tk 3 8 ?_ rfl (by kernel_rfl) (fun _ _ _ h => h) (by kernel_rfl) ?_ hHeld ?_
 rotate_left
 · intro w1 hSw; (try dsimp only at hSw); go_simp <;> with_reducible rfl
 try simp only [zz]
 refine tk 4 9 (.agg #[.int .i64 k, .int .i64 l, .int .i64 m, .int .i64 n, .int .i64 u, .int .i64 v]) rfl (by kernel_rfl) (fun _ _ _ h => h) (by kernel_rfl) (fun V hV => ex_Signal _ rfl (w.heap.size) 6 rfl ((hV.1).cell 6) ((hV.1).cell 7) ((hV.1).cell 8) ((hV.1).cell 9) ((hV.1).cell 10) ((hV.1).cell 11)) hHeld ?_
 try simp only [zz]
 refine tk 6 11 ?_ rfl (by kernel_rfl) (fun _ _ _ h => h) (by kernel_rfl) ?_ hHeld ?_
 rotate_left
 · intro w1 hSw; (try dsimp only at hSw); go_simp <;> with_reducible rfl
 try simp only [zz]
 refine st1 2 (by kernel_rfl) rfl (fun K hK => ?_)
 go_simp
 go_at_call 20
 refine (HC1.out _).mono ?_
 rintro e v2 ⟨rfl, hb2⟩
 try go_simp
 refine hK.out _ _ ?_ (fun hHeld => ?_)
 · exact ⟨(hHeld.1).old hb2, (hHeld.2).trans ((hb2).mono (hHeld.2).size)⟩
 clear hK K
 try simp only [zz]
 refine st1 5 (by kernel_rfl) rfl (fun K hK => ?_)
 go_simp
 go_at_call 20
 refine (HC2.out _).mono ?_
 rintro e v5 ⟨rfl, hb5⟩
 try go_simp
 refine hK.out _ _ ?_ (fun hHeld => ?_)
 · exact ⟨(hHeld.1).old hb5, (hHeld.2).trans ((hb5).mono (hHeld.2).size)⟩
 clear hK K
 try simp only [zz]
 refine st1 7 (by kernel_rfl) rfl (fun K hK => ?_)
 go_simp
 go_at_call 97
 refine (between_any t 1000 10000 _).mono ?_
 rintro e v7 ⟨rfl, rfl⟩
 try go_simp
 refine hK.out _ _ ?_ (fun hHeld => ?_)
 · exact hHeld
 clear hK K
 try simp only [zz]
 refine st1 8 (by kernel_rfl) rfl (fun K hK => ?_)
 go_simp
 refine hK.out _ _ ?_ (fun hHeld => ?_)
 · exact ⟨(hHeld.1).old ((Below.refl _ _).alloc (Nat.le_refl _) _), (hHeld.2).trans ((((Below.refl _ _).alloc (Nat.le_refl _) _)).mono (hHeld.2).size)⟩
 clear hK K
 try simp only [zz]
 refine st1 9 (by kernel_rfl) rfl (fun K hK => ?_)
 go_simp
 go_at_call 80
 refine (firstV_any _ _ _ [E1, E2, whenI (rangeB t 1000 10000) 3] _ ?_ rfl (by simp)).mono ?_
 · exact Rd.newT (t := 29)
 rintro e v99 ⟨rfl, rfl⟩
 try go_simp
 refine hK.out _ _ ?_ (fun hHeld => ?_)
 · exact hHeld
 clear hK K
 try simp only [zz]
 refine tk 10 4 ?_ rfl (by kernel_rfl) (fun _ _ _ h => h) (by kernel_rfl) ?_ hHeld ?_
 rotate_left
 · intro w1 hSw; (try dsimp only at hSw); go_simp <;> with_reducible rfl
 try simp only [zz]
 refine wpAnyH_done (by kernel_rfl) ?_ _
 go_wp2_with fail
 go_ret
 exact ⟨rfl, hHeld.2⟩
set_option maxRecDepth 100000 in
set_option maxHeartbeats 1000000 in
theorem capturedT_bad (a b c d x y k l m n u v t E : Int) (w : World) (hE : firstI [sigE a b c d x y, sigE k l m n u v, whenI (rangeB t 1000 10000) 3] = E) (h0 : E ≠ 0) : Calls Tryz.prog 31 #[.agg #[.int .i64 a, .int .i64 b, .int .i64 c, .int .i64 d, .int .i64 x, .int .i64 y, .int .i64 k, .int .i64 l, .int .i64 m, .int .i64 n, .int .i64 u, .int .i64 v], .int .i64 t] w fun e w' => e = .returned (.tuple #[.int .i64 0, .int .i64 E]) ∧ Below w.heap.size w w' := by
 have HC : Hid (∀ W, Calls Tryz.prog 91 #[.agg #[.int .i64 a, .int .i64 b, .int .i64 c, .int .i64 d, .int .i64 x, .int .i64 y, .int .i64 k, .int .i64 l, .int .i64 m, .int .i64 n, .int .i64 u, .int .i64 v], .int .i64 t] W fun e w' => e = .returned (.int .i64 E) ∧ Below W.heap.size W w') := fun W => by rw [← hE]; exact checkTwo_any a b c d x y k l m n u v t W
 have hne : (E == 0) = false := by simpa using h0
 have hne2 : (E != 0) = true := by simpa using h0
 clear hE h0
 go_enter Tryz.func31, Tryz.ntmps31
 go_upto_region 1 with fail
 refine genT (fun V => Row V (w.heap.size) 54 [.int .i64 a, .int .i64 b, .int .i64 c, .int .i64 d, .int .i64 x, .int .i64 y, .int .i64 k, .int .i64 l, .int .i64 m, .int .i64 n, .int .i64 u, .int .i64 v] ∧ Below w.heap.size w V) ⟨(rowAt _ _ (by first | rfl | simp only [World.size_alloc])), ((Below.refl _ _).alloc (by first | exact Nat.le_refl _ | (simp only [World.size_alloc]; omega)) _)⟩ ?_
 intro W1 s1
 have HS1 := Lib.hid s1
 clear s1
 go_wp2_with (first | (refine wpList_load_row rfl 54 _ rfl (w.heap.size) rfl 54 #[.int .i64 a, .int .i64 b, .int .i64 c, .int .i64 d, .int .i64 x, .int .i64 y, .int .i64 k, .int .i64 l, .int .i64 m, .int .i64 n, .int .i64 u, .int .i64 v] (0, 0) _ HS1.out.1 Tryz.underlying54 rfl ?_ ?_; (kernel_rfl)) | (go_at_call 91; refine (HC.out _).mono ?_; rintro e w2 ⟨rfl, hb_w2⟩; have HS2 : Hid (Row w2 (w.heap.size) 54 [.int .i64 a, .int .i64 b, .int .i64 c, .int .i64 d, .int .i64 x, .int .i64 y, .int .i64 k, .int .i64 l, .int .i64 m, .int .i64 n, .int .i64 u, .int .i64 v] ∧ Below w.heap.size w w2) := ⟨(HS1.out.1).old hb_w2, (HS1.out.2).trans (hb_w2.mono (HS1.out.2).size)⟩; clear hb_w2))
 go_ret2
 exact ⟨rfl, HS2.out.2⟩
set_option maxRecDepth 100000 in
set_option maxHeartbeats 1000000 in
theorem capturedT_ok (a b c d x y k l m n u v t : Int) (w : World) (hE : firstI [sigE a b c d x y, sigE k l m n u v, whenI (rangeB t 1000 10000) 3] = 0) : Calls Tryz.prog 31 #[.agg #[.int .i64 a, .int .i64 b, .int .i64 c, .int .i64 d, .int .i64 x, .int .i64 y, .int .i64 k, .int .i64 l, .int .i64 m, .int .i64 n, .int .i64 u, .int .i64 v], .int .i64 t] w fun e w' => e = .returned (.tuple #[.int .i64 (capI (a * a + b * b) (k * k + l * l) t), .int .i64 0]) ∧ Below w.heap.size w w' := by
 obtain ⟨hs1, hs2, hs3⟩ := fI3 hE
 have hg := sig_good hs1
 have hk := sig_good hs2
 have hs3 := whenZ (by decide) hs3
 have ht : 1000 ≤ t ∧ t ≤ 10000 := by
  unfold rangeB at hs3
  simp only [Bool.or_eq_false_iff, decide_eq_false_iff_not] at hs3
  omega
 have bp := hg.sq
 have bq := hk.sq
 have HC : Hid (∀ W, Calls Tryz.prog 91 #[.agg #[.int .i64 a, .int .i64 b, .int .i64 c, .int .i64 d, .int .i64 x, .int .i64 y, .int .i64 k, .int .i64 l, .int .i64 m, .int .i64 n, .int .i64 u, .int .i64 v], .int .i64 t] W fun e w' => e = .returned (.int .i64 0) ∧ Below W.heap.size W w') := fun W => by have h := checkTwo_any a b c d x y k l m n u v t W; rw [hE] at h; exact h
 have HK : Hid (∀ W, Calls Tryz.prog 92 #[.agg #[.int .i64 a, .int .i64 b, .int .i64 c, .int .i64 d, .int .i64 x, .int .i64 y, .int .i64 k, .int .i64 l, .int .i64 m, .int .i64 n, .int .i64 u, .int .i64 v], .int .i64 t] W fun e w' => e = .returned (.int .i64 (capI (a * a + b * b) (k * k + l * l) t)) ∧ Below W.heap.size W w') := fun W => captured_any a b c d x y k l m n u v t _ _ W hg.g1 hk.g1 rfl rfl (by omega) (by omega) (by omega)
 obtain ⟨K, hK⟩ : ∃ K, K = capI (a * a + b * b) (k * k + l * l) t := ⟨_, rfl⟩
 rw [← hK] at HK ⊢
 clear hE hs1 hs2 hs3 hg hk ht bp bq hK
 go_enter Tryz.func31, Tryz.ntmps31
 go_upto_region 1 with fail
 refine genT (fun V => Row V (w.heap.size) 54 [.int .i64 a, .int .i64 b, .int .i64 c, .int .i64 d, .int .i64 x, .int .i64 y, .int .i64 k, .int .i64 l, .int .i64 m, .int .i64 n, .int .i64 u, .int .i64 v] ∧ Below w.heap.size w V) ⟨(rowAt _ _ (by first | rfl | simp only [World.size_alloc])), ((Below.refl _ _).alloc (by first | exact Nat.le_refl _ | (simp only [World.size_alloc]; omega)) _)⟩ ?_
 intro W1 s1
 have HS1 := Lib.hid s1
 clear s1
 go_wp2_with (first | (refine wpList_load_row rfl 54 _ rfl (w.heap.size) rfl 54 #[.int .i64 a, .int .i64 b, .int .i64 c, .int .i64 d, .int .i64 x, .int .i64 y, .int .i64 k, .int .i64 l, .int .i64 m, .int .i64 n, .int .i64 u, .int .i64 v] (0, 0) _ HS2.out.1 Tryz.underlying54 rfl ?_ ?_; (kernel_rfl)) | (refine wpList_load_row rfl 54 _ rfl (w.heap.size) rfl 54 #[.int .i64 a, .int .i64 b, .int .i64 c, .int .i64 d, .int .i64 x, .int .i64 y, .int .i64 k, .int .i64 l, .int .i64 m, .int .i64 n, .int .i64 u, .int .i64 v] (0, 0) _ HS1.out.1 Tryz.underlying54 rfl ?_ ?_; (kernel_rfl)) | (go_at_call 91; refine (HC.out _).mono ?_; rintro e w2 ⟨rfl, hb_w2⟩; have HS2 : Hid (Row w2 (w.heap.size) 54 [.int .i64 a, .int .i64 b, .int .i64 c, .int .i64 d, .int .i64 x, .int .i64 y, .int .i64 k, .int .i64 l, .int .i64 m, .int .i64 n, .int .i64 u, .int .i64 v] ∧ Below w.heap.size w w2) := ⟨(HS1.out.1).old hb_w2, (HS1.out.2).trans (hb_w2.mono (HS1.out.2).size)⟩; clear hb_w2) | (go_at_call 92; refine (HK.out _).mono ?_; rintro e w3 ⟨rfl, hb_w3⟩; have HS3 : Hid (Row w3 (w.heap.size) 54 [.int .i64 a, .int .i64 b, .int .i64 c, .int .i64 d, .int .i64 x, .int .i64 y, .int .i64 k, .int .i64 l, .int .i64 m, .int .i64 n, .int .i64 u, .int .i64 v] ∧ Below w.heap.size w w3) := ⟨(HS2.out.1).old hb_w3, (HS2.out.2).trans (hb_w3.mono (HS2.out.2).size)⟩; clear hb_w3))
 go_ret2
 exact ⟨rfl, HS3.out.2⟩
theorem results_ttt {P : Program} {fn : Func} {t u v : Tmp} (h : fn.results = #[.tmp t, .tmp u, .tmp v]) (tmps : Array Value) (w : World) : (results fn tmps).run P w = .ok (.tuple #[tmps.getD t undef, tmps.getD u undef, tmps.getD v undef]) w := by
 simp [results, h]
set_option maxRecDepth 100000 in
set_option maxHeartbeats 1000000 in
theorem toldT_ok (rs rf rl ra rb a b c d x y E : Int) (w : World) (hE : E = firstI [recE rs rf rl ra rb, sigE a b c d x y]) (h0 : E = 0) (tn : Int) (fl : ByteArray) (HM : ∀ W, Calls Tryz.prog 114 #[.agg #[.int .i64 rs, .int .i64 rf, .int .i64 rl, .int .i64 ra, .int .i64 rb], .agg #[.int .i64 a, .int .i64 b, .int .i64 c, .int .i64 d, .int .i64 x, .int .i64 y]] W fun e w' => e = .returned (.tuple #[.int .i64 tn, .string fl]) ∧ Below W.heap.size W w') : Calls Tryz.prog 57 #[.agg #[.int .i64 rs, .int .i64 rf, .int .i64 rl, .int .i64 ra, .int .i64 rb], .agg #[.int .i64 a, .int .i64 b, .int .i64 c, .int .i64 d, .int .i64 x, .int .i64 y]] w fun e w' => e = .returned (.tuple #[.int .i64 tn, .string fl, .int .i64 0]) ∧ Below w.heap.size w w' := by
 have HC1 : Hid (∀ W, Calls Tryz.prog 93 #[.agg #[.int .i64 rs, .int .i64 rf, .int .i64 rl, .int .i64 ra, .int .i64 rb]] W fun e w' => e = .returned (.int .i64 (recE rs rf rl ra rb)) ∧ Below W.heap.size W w') := fun W => checkReceiver_any rs rf rl ra rb W
 have HC2 : Hid (∀ W, Calls Tryz.prog 20 #[.agg #[.int .i64 a, .int .i64 b, .int .i64 c, .int .i64 d, .int .i64 x, .int .i64 y]] W fun e w' => e = .returned (.int .i64 (sigE a b c d x y)) ∧ Below W.heap.size W w') := fun W => checkSignal_any a b c d x y W
 have HM := Lib.hid HM
 obtain ⟨E1, hE1⟩ : ∃ E1, E1 = recE rs rf rl ra rb := ⟨_, rfl⟩
 obtain ⟨E2, hE2⟩ : ∃ E2, E2 = sigE a b c d x y := ⟨_, rfl⟩
 rw [← hE1] at HC1 hE
 rw [← hE2] at HC2 hE
 have HE := Lib.hid hE
 have hne : (E == 0) = true := by simpa using h0
 have hne2 : (E != 0) = false := by simpa using h0
 clear hE hE1 hE2 h0
 go_enter Tryz.func57, Tryz.ntmps57
 go_upto_region 1 with fail
 refine genT (fun V => Row V (w.heap.size) 69 [.int .i64 rs, .int .i64 rf, .int .i64 rl, .int .i64 ra, .int .i64 rb] ∧ Row V (w.heap.size + 1) 32 [.int .i64 a, .int .i64 b, .int .i64 c, .int .i64 d, .int .i64 x, .int .i64 y] ∧ Below w.heap.size w V) ⟨(Row.alloc (rowAt _ _ (by first | rfl | simp only [World.size_alloc])) _), (rowAt _ _ (by first | rfl | simp only [World.size_alloc])), (((Below.refl _ _).alloc (by first | exact Nat.le_refl _ | (simp only [World.size_alloc]; omega)) _).alloc (by first | exact Nat.le_refl _ | (simp only [World.size_alloc]; omega)) _)⟩ ?_
 intro W1 s1
 have HS1 := Lib.hid s1
 clear s1
 refine wp_region_held_drew (S := fun V => Row V (w.heap.size) 69 [.int .i64 rs, .int .i64 rf, .int .i64 rl, .int .i64 ra, .int .i64 rb] ∧ Row V (w.heap.size + 1) 32 [.int .i64 a, .int .i64 b, .int .i64 c, .int .i64 d, .int .i64 x, .int .i64 y] ∧ Below w.heap.size w V) (by kernel_rfl) ?_ (fun hHeld => ?_)
 · exact ⟨(HS1.out.1).drew, (HS1.out.2.1).drew, (HS1.out.2.2).drew⟩
 refine tk 0 10 (.agg #[.int .i64 rs, .int .i64 rf, .int .i64 rl, .int .i64 ra, .int .i64 rb]) rfl (by kernel_rfl) (fun _ _ _ h => h) (by kernel_rfl) (fun V hV => ex_rowT 69 _ rfl (w.heap.size) rfl 69 [.int .i64 rs, .int .i64 rf, .int .i64 rl, .int .i64 ra, .int .i64 rb] _ Tryz.underlying69 rfl (by kernel_rfl) (hV.1)) hHeld ?_
 try simp only [zz]
 refine tk 2 12 (.agg #[.int .i64 a, .int .i64 b, .int .i64 c, .int .i64 d, .int .i64 x, .int .i64 y]) rfl (by kernel_rfl) (fun _ _ _ h => h) (by kernel_rfl) (fun V hV => ex_rowT 32 _ rfl (w.heap.size + 1) rfl 32 [.int .i64 a, .int .i64 b, .int .i64 c, .int .i64 d, .int .i64 x, .int .i64 y] _ Tryz.underlying32 rfl (by kernel_rfl) (hV.2.1)) hHeld ?_
 try simp only [zz]
 refine st1 1 (by kernel_rfl) rfl (fun K hK => ?_)
 go_simp
 go_at_call 93
 refine (HC1.out _).mono ?_
 rintro e v1 ⟨rfl, hb1⟩
 try go_simp
 refine hK.out _ _ ?_ (fun hHeld => ?_)
 · exact ⟨(hHeld.1).old hb1, (hHeld.2.1).old hb1, (hHeld.2.2).trans ((hb1).mono (hHeld.2.2).size)⟩
 clear hK K
 try simp only [zz]
 refine st1 3 (by kernel_rfl) rfl (fun K hK => ?_)
 go_simp
 go_at_call 20
 refine (HC2.out _).mono ?_
 rintro e v3 ⟨rfl, hb3⟩
 try go_simp
 refine hK.out _ _ ?_ (fun hHeld => ?_)
 · exact ⟨(hHeld.1).old hb3, (hHeld.2.1).old hb3, (hHeld.2.2).trans ((hb3).mono (hHeld.2.2).size)⟩
 clear hK K
 try simp only [zz]
 refine st1 4 (by kernel_rfl) rfl (fun K hK => ?_)
 go_simp
 refine hK.out _ _ ?_ (fun hHeld => ?_)
 · exact ⟨(hHeld.1).old ((Below.refl _ _).alloc (Nat.le_refl _) _), (hHeld.2.1).old ((Below.refl _ _).alloc (Nat.le_refl _) _), (hHeld.2.2).trans ((((Below.refl _ _).alloc (Nat.le_refl _) _)).mono (hHeld.2.2).size)⟩
 clear hK K
 try simp only [zz]
 refine st1 5 (by kernel_rfl) rfl (fun K hK => ?_)
 go_simp
 go_at_call 80
 refine (firstV_any _ _ _ [E1, E2] _ ?_ rfl (by simp)).mono ?_
 · exact Rd.newT (t := 29)
 rintro e v13 ⟨rfl, rfl⟩
 try go_simp
 refine hK.out _ _ ?_ (fun hHeld => ?_)
 · exact hHeld
 clear hK K
 try simp only [zz]
 refine tk 6 7 ?_ rfl (by kernel_rfl) (fun _ _ _ h => h) (by kernel_rfl) ?_ hHeld ?_
 rotate_left
 · intro w1 hSw; (try dsimp only at hSw); go_simp <;> with_reducible rfl
 try simp only [zz]
 refine wpAnyH_done (by kernel_rfl) ?_ _
 rw [← HE.out]
 clear HC1 HC2 HE
 have HS4 := Lib.hid hHeld
 clear hHeld
 go_wp2_with (first
  | (refine wpList_load_row rfl 69 _ rfl (w.heap.size) rfl 69 #[.int .i64 rs, .int .i64 rf, .int .i64 rl, .int .i64 ra, .int .i64 rb] (0, 0) _ HS4.out.1 Tryz.underlying69 rfl ?_ ?_; (kernel_rfl))
  | (refine wpList_load_row rfl 32 _ rfl (w.heap.size + 1) rfl 32 #[.int .i64 a, .int .i64 b, .int .i64 c, .int .i64 d, .int .i64 x, .int .i64 y] (0, 0) _ HS4.out.2.1 Tryz.underlying32 rfl ?_ ?_; (kernel_rfl))
  | (go_at_call 114; refine (HM.out _).mono ?_; rintro e w5 ⟨rfl, hb_w5⟩; have HS5 : Hid (Row w5 (w.heap.size) 69 [.int .i64 rs, .int .i64 rf, .int .i64 rl, .int .i64 ra, .int .i64 rb] ∧ Row w5 (w.heap.size + 1) 32 [.int .i64 a, .int .i64 b, .int .i64 c, .int .i64 d, .int .i64 x, .int .i64 y] ∧ Below w.heap.size w w5) := ⟨(HS4.out.1).old hb_w5, (HS4.out.2.1).old hb_w5, (HS4.out.2.2).trans (hb_w5.mono (HS4.out.2.2).size)⟩; clear hb_w5))
 refine bodyPost_ret (results_ttt rfl _ _) rfl ?_
 exact ⟨rfl, HS5.out.2.2⟩
def mnI (a b : Int) : Int := if b < a then b else a
def mxI (a b : Int) : Int := if a < b then b else a
def minL (zs : List Int) : Int := (zs.drop 1).foldl mnI (zs.headD 0)
def maxL (zs : List Int) : Int := (zs.drop 1).foldl mxI (zs.headD 0)
theorem fold_snoc (f : Int → Int → Int) (zs : List Int) (k : Nat) (hk : k < zs.length) (h0 : 0 < k) : f (((zs.take k).drop 1).foldl f ((zs.take k).headD 0)) zs[k] = ((zs.take (k + 1)).drop 1).foldl f ((zs.take (k + 1)).headD 0) := by
 match zs, k, h0 with
 | z :: zs, k + 1, _ =>
   have hk' : k < zs.length := by simpa using hk
   show f ((zs.take k).foldl f z) zs[k] = (zs.take (k + 1)).foldl f z
   rw [List.take_succ_eq_append_getElem hk', List.foldl_append]; rfl
 | [], _, _ => simp at hk
set_option maxRecDepth 100000 in
set_option maxHeartbeats 1000000 in
theorem minS_any (A : Option Addr) (n c : Nat) (zs : List Int) (w : World) (h : Rd w A (ints zs)) (hn : n = zs.length) (h0 : 0 < zs.length) (hm : zs.length ≤ 1000000000) :
 Calls Tryz.prog 146 #[.slice A n c] w fun e w' => e = .returned (.int .i64 (minL zs)) ∧ w = w' := by
 subst hn
 obtain ⟨b0, off0, e0, hc0⟩ := Rd.int h h0
 have hz : decide ((zs.length : Int) < 1) = false := decide_eq_false (by omega)
 have hf : Hid (zs[0] = ((zs.take 1).drop 1).foldl mnI ((zs.take 1).headD 0)) := by
  match zs, h0 with
  | z :: zs, _ => exact rfl
 subst e0
 rw [Nat.add_zero] at hc0
 go_enter Tryz.func146, Tryz.ntmps146
 go_wp2
 go_loop [3, 4] (fun m i => ∃ k : Nat, 1 ≤ k ∧ k ≤ zs.length ∧ i = .int .i64 k ∧ ∃ x : Int, m = .int .i64 x ∧ Hid (x = ((zs.take k).drop 1).foldl mnI ((zs.take k).headD 0))) (fun _ i => zs.length - (intOf i).toNat)
 case atStart => exact ⟨1, Nat.le_refl _, h0, rfl, _, rfl, hf⟩
 case round =>
  obtain ⟨k, hk0, hk, rfl, x, rfl, H⟩ := hrel
  by_cases hlt : k < zs.length
  · obtain ⟨b, off, e, hc⟩ := Rd.int h hlt
    cases e
    have hd := Lib.hid (fold_snoc mnI zs k hlt (by omega))
    obtain ⟨y, hy⟩ : ∃ y, y = zs[k] := ⟨_, rfl⟩
    rw [← hy] at hc hd
    have HY := Lib.hid hy
    clear hy hf hc0
    go_wp2
    all_goals
     go_round
     case rel => exact ⟨k + 1, by omega, by omega, by go_num, _, rfl, by show _ = _; rw [← hd.out, ← H.out]; unfold mnI; first | rfl | omega | (split <;> omega)⟩
     case measure => simp [intOf]; omega
  · obtain rfl : k = zs.length := by omega
    go_wp2
    go_ret
    exact ⟨ret_int (by rw [H.out, List.take_length]; rfl), rfl⟩
set_option maxRecDepth 100000 in
set_option maxHeartbeats 1000000 in
theorem maxS_any (A : Option Addr) (n c : Nat) (zs : List Int) (w : World) (h : Rd w A (ints zs)) (hn : n = zs.length) (h0 : 0 < zs.length) (hm : zs.length ≤ 1000000000) :
 Calls Tryz.prog 147 #[.slice A n c] w fun e w' => e = .returned (.int .i64 (maxL zs)) ∧ w = w' := by
 subst hn
 obtain ⟨b0, off0, e0, hc0⟩ := Rd.int h h0
 have hz : decide ((zs.length : Int) < 1) = false := decide_eq_false (by omega)
 have hf : Hid (zs[0] = ((zs.take 1).drop 1).foldl mxI ((zs.take 1).headD 0)) := by
  match zs, h0 with
  | z :: zs, _ => exact rfl
 subst e0
 rw [Nat.add_zero] at hc0
 go_enter Tryz.func147, Tryz.ntmps147
 go_wp2
 go_loop [3, 4] (fun m i => ∃ k : Nat, 1 ≤ k ∧ k ≤ zs.length ∧ i = .int .i64 k ∧ ∃ x : Int, m = .int .i64 x ∧ Hid (x = ((zs.take k).drop 1).foldl mxI ((zs.take k).headD 0))) (fun _ i => zs.length - (intOf i).toNat)
 case atStart => exact ⟨1, Nat.le_refl _, h0, rfl, _, rfl, hf⟩
 case round =>
  obtain ⟨k, hk0, hk, rfl, x, rfl, H⟩ := hrel
  by_cases hlt : k < zs.length
  · obtain ⟨b, off, e, hc⟩ := Rd.int h hlt
    cases e
    have hd := Lib.hid (fold_snoc mxI zs k hlt (by omega))
    obtain ⟨y, hy⟩ : ∃ y, y = zs[k] := ⟨_, rfl⟩
    rw [← hy] at hc hd
    have HY := Lib.hid hy
    clear hy hf hc0
    go_wp2
    all_goals
     go_round
     case rel => exact ⟨k + 1, by omega, by omega, by go_num, _, rfl, by show _ = _; rw [← hd.out, ← H.out]; unfold mxI; first | rfl | omega | (split <;> omega)⟩
     case measure => simp [intOf]; omega
  · obtain rfl : k = zs.length := by omega
    go_wp2
    go_ret
    exact ⟨ret_int (by rw [H.out, List.take_length]; rfl), rfl⟩
set_option maxRecDepth 100000 in
set_option maxHeartbeats 1000000 in
theorem reach_any (A : Option Addr) (n c : Nat) (zs : List Int) (w : World) (h : Rd w A (ints zs)) (hn : n = zs.length) (h0 : 0 < zs.length) (hm : zs.length ≤ 1000000000) :
 Calls Tryz.prog 96 #[.slice A n c] w fun e w' => e = .returned (.agg #[.int .i64 (minL zs), .int .i64 (maxL zs)]) ∧ Below w.heap.size w w' := by
 have H1 : Hid (∀ W, Rd W A (ints zs) → Calls Tryz.prog 146 #[.slice A n c] W fun e w' => e = .returned (.int .i64 (minL zs)) ∧ W = w') := fun W hW => minS_any A n c zs W hW hn h0 hm
 have H2 : Hid (∀ W, Rd W A (ints zs) → Calls Tryz.prog 147 #[.slice A n c] W fun e w' => e = .returned (.int .i64 (maxL zs)) ∧ W = w') := fun W hW => maxS_any A n c zs W hW hn h0 hm
 have hb : Below w.heap.size w (w.alloc (.cells #[.int .i64 0, .int .i64 0] 62)) := (Below.refl _ _).alloc (Nat.le_refl _) _
 have HR := Lib.hid (h.below hb)
 have HB := Lib.hid hb
 have HN : Hid (Row (w.alloc (.cells #[.int .i64 0, .int .i64 0] 62)) w.heap.size 62 [.int .i64 0, .int .i64 0]) := Row.new w 62 [.int .i64 0, .int .i64 0]
 obtain ⟨p, hp⟩ : ∃ p, p = minL zs := ⟨_, rfl⟩
 obtain ⟨q, hq⟩ : ∃ q, q = maxL zs := ⟨_, rfl⟩
 rw [← hp] at H1 ⊢; rw [← hq] at H2 ⊢
 clear h hn h0 hm hb hp hq
 go_enter Tryz.func96, Tryz.ntmps96
 go_wp2_with (first
  | (go_at_call 146; refine (H1.out _ HR.out).mono ?_; rintro e w2 ⟨rfl, rfl⟩)
  | (go_at_call 147; refine (H2.out _ HR.out).mono ?_; rintro e w2 ⟨rfl, rfl⟩)
  | (refine wpList_store_row rfl 62 _ _ rfl (w.heap.size) #[.int .i64 p, .int .i64 q] rfl rfl 62 _ HN.out ?_ ?_ ?_ ?_; (kernel_rfl); (rfl); (simp [Value.oneCell'])))
 refine bodyPost_ret (results_rowA rfl _ _ (w.heap.size) 62 #[.int .i64 p, .int .i64 q] (0, 0) _ rfl (HN.out.setRow [.int .i64 p, .int .i64 q]) Tryz.underlying62 rfl (by kernel_rfl)) rfl ⟨rfl, Below.setRow HB.out (Nat.le_refl _) _⟩
end Go.Proofs.YtcaekblnioidiaaGreatDoor
