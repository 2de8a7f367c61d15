import Derived.Test.YtipligklkkiejaaGreatDoorM15
import Derived.Test.YtipligklkkiejaaGreatDoorM32
import Derived.Test.YtipligklkkiejaaGreatDoorM37
import Derived.Test.YtipligklkkiejaaGreatDoorM38
import Derived.Deep.LoopGhost
/- Contracts: the packets that are received by the reference. -/
namespace Go.Proofs.YtipligklkkiejaaGreatDoor
set_option linter.all false
open Go.RowKit Go.Fl
set_option linter.unusedVariables false
set_option linter.unusedSimpArgs false

def RecvR (w : World) (key : List Int) (bs : List UInt8) (fuel : Nat) (v u : Value) (i : Nat) (wr : World) : Prop :=
  ∃ ps sp, ps.length ≤ i ∧ sp.length ≤ i ∧ bs.length ≤ i + fuel ∧ recvGo key bs fuel i ps sp = recvL key bs ∧
    wr.ownsRow (w.heap.size + 1) 27 11 v ps.length ps.flatten ∧ wr.ownsRow (w.heap.size + 1) 93 2 u sp.length (spanC sp) ∧
    (v.ownBlock = none ∨ v.ownBlock ≠ u.ownBlock) ∧ Row wr w.heap.size 23 (u8s key) ∧ Below w.heap.size w wr
theorem byts_one (bs : List UInt8) : ∀ v ∈ byts bs, v.oneCell' = true := by rw [byts_nats]; exact u8s_one _
theorem ex_slice {P : Program} {o : Oper} {a : Act} {w : World} (t : TypeId) (x l h : Operand) (ho : o.op = .slice t x (some l) (some h) none) (xv lv hv v : Value) (hx : a.eval x = xv) (hl : a.eval l = lv) (hh : a.eval h = hv)
    (ht : P.underlying t = some (.slice (P.elem t))) (hr : (Instr.slice t xv (some lv) (some hv) none).run P w = .ok v w) : (execOp a.eval o).run P w = .ok (.value v) w := by
  unfold execOp
  simp only [ho, Option.map_some, Option.map_none, hx, hl, hh, Sem.run_bind, run_sliceAt_slice _ t _ _ _ _ ht, hr, Result.andThen_ok, Sem.run_pure]
theorem splice_all {zs cs : List Value} (hz : zs.length = cs.length) : cs = splice zs 0 cs := by
  unfold splice
  rw [List.take_zero, List.nil_append, Nat.zero_add, ← hz, List.drop_length, List.append_nil]

set_option maxRecDepth 100000 in
set_option maxHeartbeats 3000000 in
theorem receivedR_any (k0 k1 k2 k3 k4 k5 k6 k7 : Int) (A : Option Addr) (n c : Nat) (bs : List UInt8) (w : World) (hA : Rd w A (byts bs)) (hn : n = bs.length) (hc : n ≤ c) (hm : bs.length ≤ 29696) (hkeys : ∀ j (h : j < 8), isByte ([k0, k1, k2, k3, k4, k5, k6, k7][j])) :
    Calls Tryz.prog 17 #[.agg #[.int .u8 k0, .int .u8 k1, .int .u8 k2, .int .u8 k3, .int .u8 k4, .int .u8 k5, .int .u8 k6, .int .u8 k7], .slice A n c] w
      fun e w' => ∃ v u, e = .returned (.tuple #[v, u]) ∧ w'.ownsRow (w.heap.size + 1) 27 11 v (recvL [k0, k1, k2, k3, k4, k5, k6, k7] bs).1.length (recvL [k0, k1, k2, k3, k4, k5, k6, k7] bs).1.flatten ∧ w'.ownsRow (w.heap.size + 1) 93 2 u (recvL [k0, k1, k2, k3, k4, k5, k6, k7] bs).2.length (spanC (recvL [k0, k1, k2, k3, k4, k5, k6, k7] bs).2) ∧ Below w.heap.size w w' := by
  subst hn
  have Hk := Lib.hid hkeys
  have HA := Lib.hid hA
  have Hm := Lib.hid hm
  clear hkeys hA
  have R0 := Lib.hid (Row.new w 23 (u8s [k0, k1, k2, k3, k4, k5, k6, k7]))
  obtain ⟨ip, hip0, hip1, hip2, hip3⟩ := info_parts infoRPw
  go_enter Tryz.func17, Tryz.ntmps17
  go_wp2
  go_loopg [6, 7, 8] bs.length (fun g v u i wr => ∃ k : Nat, k ≤ bs.length ∧ i = .int .i64 k ∧ RecvR w [k0, k1, k2, k3, k4, k5, k6, k7] bs g v u k wr)
  case atStart =>
    refine ⟨0, Nat.zero_le _, rfl, [], [], Nat.le_refl _, Nat.le_refl _, by omega, rfl, World.ownsRow_nil _ _ _ _, World.ownsRow_nil _ _ _ _, .inl rfl, R0.out, (Below.refl _ _).alloc (Nat.le_refl _) _⟩
  case round =>
    obtain ⟨k, hk, rfl, HI⟩ := hrel
    have HI := Lib.hid HI
    by_cases hlt : k < bs.length
    · obtain ⟨b, off, hAb, _⟩ := Rd.byte HA.out hlt
      subst hAb
      obtain ⟨ps, sp, hps, hsp, hfu, hgo, hv, hu, hd, hkey, hB⟩ := HI.out
      have hsz := hkey.lt
      obtain ⟨f, rfl⟩ : ∃ f, gk = f + 1 := ⟨gk - 1, by omega⟩
      have Hlt := Lib.hid hlt
      have Hps := Lib.hid hps; have Hsp := Lib.hid hsp; have Hfu := Lib.hid hfu; have Hgo := Lib.hid hgo; have Hv := Lib.hid hv; have Hu := Lib.hid hu; have Hd := Lib.hid hd; have Hkey := Lib.hid hkey; have HB := Lib.hid hB; have Hsz := Lib.hid hsz
      clear hps hsp hfu hgo hv hu hd hkey hB hsz HI
      by_cases hfit : k + 29 ≤ bs.length
      · obtain ⟨b9, hb9⟩ : ∃ b9, b9 = (bs.drop k).take 29 := ⟨_, rfl⟩
        have hl9 : b9.length = 29 := by rw [hb9]; simp; omega
        have hRd : Hid (∀ W, Below wr.heap.size wr W → Rd W (some ⟨b, off + k, none⟩) (byts b9)) := fun W hW => by
          have := (((HA.out.below (HB.out.trans (hW.mono HB.out.size))).drop k).take 29); rw [hb9]; simpa [byts] using this
        have HBG9 : Hid (begE [k0, k1, k2, k3, k4, k5, k6, k7] (bs.drop k) = (decE [k0, k1, k2, k3, k4, k5, k6, k7] b9 == 0) ∧ begC [k0, k1, k2, k3, k4, k5, k6, k7] (bs.drop k) = decC [k0, k1, k2, k3, k4, k5, k6, k7] b9) := by
          unfold Hid begE begC
          rw [if_neg (by simp; omega), if_neg (by simp; omega), hb9]; exact ⟨rfl, rfl⟩
        have Hl9 := Lib.hid hl9
        obtain ⟨A9, hsl0, hrd0, _⟩ := slice_mid (P := Tryz.prog) 37 (by kernel_rfl) (fun _ => by kernel_rfl) (some ⟨b, off, none⟩) bs.length c k (k + 29) (by omega) hfit hc (fun h => by cases h)
        have hsl : ∀ W, (Instr.slice 37 (.slice (some ⟨b, off, none⟩) bs.length c) (some (.int .i64 (k : Int))) (some (.int .i64 ((k : Int) + 29))) none).run Tryz.prog W = .ok (.slice A9 29 (c - k)) W := fun W => by
          have h := hsl0 W
          rw [show k + 29 - k = 29 by omega] at h
          exact_mod_cast h
        have hrd9 : ∀ W, Below wr.heap.size wr W → Rd W A9 (byts b9) := fun W hW => by
          have h := hrd0 W _ (HA.out.below (HB.out.trans (hW.mono HB.out.size)))
          rw [show k + 29 - k = 29 by omega] at h
          rw [hb9]; simpa [byts] using h
        obtain ⟨ad9, had9, _⟩ := (hrd9 wr (Below.refl _ _)).src (by simp [byts, hl9])
        subst had9
        have HSRC : Hid (∀ W, Below wr.heap.size wr W → ∀ j v, (byts b9)[j]? = some v → W.cell? (ad9.add j) = some v) := fun W hW => by
          obtain ⟨ad, h1, h2⟩ := (hrd9 W hW).src (by simp [byts, hl9])
          cases h1; exact h2
        have HSL := Lib.hid hsl
        have hwr : IntKind.i64.wrap ((k : Int) + 29) = (k : Int) + 29 := IntWalk.i64_in _ (by omega)
        have j1 : (k : Int) + 29 ≤ (bs.length : Int) := by omega
        have Hfit := Lib.hid hfit
        clear hb9 hl9 hfit hsl hsl0 hrd0 hrd9 hRd
        go_upto_region 7 with (refine wpList_store_row rfl 28 _ _ rfl wr.heap.size (u8s z29).toArray rfl rfl 28 _ (Row.new wr 28 (u8s z29)) ?_ ?_ ?_ ?_; (rw [info51]; rfl); (rfl); (simp [u8s, z29, Value.oneCell']))
        refine genS (fun V => Row V wr.heap.size 28 (u8s z29) ∧ Below wr.heap.size wr V) ⟨new_row wr 28 (u8s z29) (u8s z29), new_below _ _ _⟩ ?_
        rintro V1 ⟨r9, q9⟩
        have R9 := Lib.hid r9; have Q9 := Lib.hid q9
        have zV : Hid (wr.heap.size < V1.heap.size) := r9.lt
        clear r9 q9
        have HB9 : Hid ((byts b9).length = 29) := by unfold Hid; simp [byts, Hl9.out]
        go_upto_region 7 with fail
        refine wp_region_held_drew (S := fun _ => True) (by kernel_rfl) ?_ (fun hHeld => ?_)
        · trivial
        refine wpAnyH_take (i := 0) (oi := ⟨some 22, _, _, _, _, _⟩) (v := ?_) rfl (by kernel_rfl) (by kernel_rfl) (by kernel_rfl) (fun _ _ _ h => h) (Or.inl ⟨by kernel_rfl, ?_⟩) hHeld ?_
        rotate_left
        · intro w1 hSw; (try dsimp only at hSw); go_simp <;> with_reducible rfl
        try simp only [Act.put, List.setIfInBounds_toArray, List.set_cons_zero, List.set_cons_succ]
        refine wpAnyH_take (i := 1) (oi := ⟨some 23, _, _, _, _, _⟩) (v := ?_) rfl (by kernel_rfl) (by kernel_rfl) (by kernel_rfl) (fun _ _ _ h => h) (Or.inl ⟨by kernel_rfl, ?_⟩) hHeld ?_
        rotate_left
        · intro w1 hSw; (try dsimp only at hSw); go_simp <;> with_reducible rfl
        try simp only [Act.put, List.setIfInBounds_toArray, List.set_cons_zero, List.set_cons_succ]
        refine wpAnyH_take (i := 2) (oi := ⟨some 24, _, _, _, _, _⟩) (v := ?_) rfl (by kernel_rfl) (by kernel_rfl) (by kernel_rfl) (fun _ _ _ h => h) (Or.inl ⟨by kernel_rfl, ?_⟩) hHeld ?_
        rotate_left
        · intro w1 hSw; (try dsimp only at hSw); go_simp <;> with_reducible rfl
        try simp only [Act.put, List.setIfInBounds_toArray, List.set_cons_zero, List.set_cons_succ]
        refine wpAnyH_take (i := 3) (oi := ⟨some 25, _, _, _, _, _⟩) (v := ?_) rfl (by kernel_rfl) (by kernel_rfl) (by kernel_rfl) (fun _ _ _ h => h) (Or.inl ⟨by kernel_rfl, ?_⟩) hHeld ?_
        rotate_left
        · intro w1 hSw; (try dsimp only at hSw); go_simp <;> with_reducible rfl
        try simp only [Act.put, List.setIfInBounds_toArray, List.set_cons_zero, List.set_cons_succ]
        refine wpAnyH_take (i := 4) (oi := ⟨some 26, _, _, _, _, _⟩) (v := ?_) rfl (by kernel_rfl) (by kernel_rfl) (by kernel_rfl) (fun _ _ _ h => h) (Or.inl ⟨by kernel_rfl, ?_⟩) hHeld ?_
        rotate_left
        · intro w1 hSw; (try dsimp only at hSw); go_simp <;> with_reducible rfl
        try simp only [Act.put, List.setIfInBounds_toArray, List.set_cons_zero, List.set_cons_succ]
        refine wpAnyH_take (i := 5) (oi := ⟨some 27, _, _, _, _, _⟩) (v := .slice (some ad9) 29 (c - k)) rfl (by kernel_rfl) (by kernel_rfl) (by kernel_rfl) (fun _ _ _ h => h) (Or.inl ⟨by kernel_rfl, fun V hV => ex_slice 37 (.tmp 23) (.tmp 24) (.tmp 26) rfl (.slice (some ⟨b, off, none⟩) bs.length c) (.int .i64 (k : Int)) (.int .i64 ((k : Int) + 29)) _ rfl rfl rfl (by kernel_rfl) (HSL.out V)⟩) hHeld ?_
        try simp only [Act.put, List.setIfInBounds_toArray, List.set_cons_zero, List.set_cons_succ]
        refine wpAnyH_ready (rs := [6]) (by kernel_rfl) (by simp) ?_
        refine AllReadyH.cons (o := ⟨some 28, _, _, _, _, _⟩) rfl (fun K hK => ?_) AllReadyH.nil
        refine step_copy_row rfl (.tmp 22) (.tmp 27) 37 37 rfl 5 Tryz.underlying37 (by kernel_rfl) wr.heap.size 0 29 29 ad9 29 (c - k) (by simp [Act.eval, Act.put]) (by simp [Act.eval, Act.put]) (u8s z29) 28 R9.out (byts b9) (by rw [HB9.out]; rfl) (HSRC.out _ Q9.out.drew) (by rw [HB9.out]; decide) (byts_one _) (byts b9) (splice_all (by rw [HB9.out]; rfl)) ?_
        refine hK.out _ _ ?_ (fun hHeld => ?_)
        · trivial
        clear hK K
        try simp only [Act.put, List.setIfInBounds_toArray, List.set_cons_zero, List.set_cons_succ]
        refine wpAnyH_done (by kernel_rfl) ?_ _
        have r9 : Row (V1.drew.setRow wr.heap.size (byts b9).toArray) wr.heap.size 28 (byts b9) := Row.setRow (w := V1.drew) R9.out _
        have q9 : Below wr.heap.size wr (V1.drew.setRow wr.heap.size (byts b9).toArray) := Below.setRow Q9.out.drew (Nat.le_refl _) _
        refine genS (fun V => Row V wr.heap.size 28 (byts b9) ∧ Below wr.heap.size wr V) ⟨r9, q9⟩ ?_
        clear r9 q9 R9 Q9 zV HSRC HSL HB9
        rintro V2 ⟨r9, q9⟩
        have R9 := Lib.hid r9; have Q9 := Lib.hid q9; have HK2 := Lib.hid (Hkey.out.old q9)
        clear r9 q9
        obtain ⟨DE, hDE⟩ : ∃ DE, DE = decE [k0, k1, k2, k3, k4, k5, k6, k7] b9 := ⟨_, rfl⟩
        obtain ⟨LC, hLC⟩ : ∃ LC, LC = decC [k0, k1, k2, k3, k4, k5, k6, k7] b9 := ⟨_, rfl⟩
        have HDR : Hid (∀ W, Calls Tryz.prog 12 #[.agg (u8s [k0, k1, k2, k3, k4, k5, k6, k7]).toArray, .agg (byts b9).toArray] W fun e w' => e = .returned (.tuple #[.agg LC.toArray, .int .i64 DE]) ∧ Below W.heap.size W w') := fun W => by
          rw [hLC, hDE]; exact decodeR_any k0 k1 k2 k3 k4 k5 k6 k7 b9 W Hl9.out Hk.out
        have IK : Hid ((u8s [k0, k1, k2, k3, k4, k5, k6, k7]).toArray.size = 8) := rfl
        have IB : Hid ((byts b9).toArray.size = 29) := by unfold Hid; simp [byts, Hl9.out]
        have IC : Hid (LC.length = 11 ∧ LC.toArray.size = 11) := by rw [hLC]; exact ⟨decC_length _ _, by simp [decC_length]⟩
        have HOC : Hid (∀ v ∈ LC, v.oneCell' = true) := by rw [hLC]; exact decC_one _ _
        have HBG9' : Hid (begE [k0, k1, k2, k3, k4, k5, k6, k7] (bs.drop k) = (DE == 0) ∧ begC [k0, k1, k2, k3, k4, k5, k6, k7] (bs.drop k) = LC) := by rw [hDE, hLC]; exact HBG9.out
        clear hDE hLC HBG9
        go_upto_region 9 with (first | (refine wpList_load_row rfl 23 _ rfl w.heap.size rfl 23 (u8s [k0, k1, k2, k3, k4, k5, k6, k7]).toArray (0, 0) _ HK2.out Tryz.underlying23 rfl ?_ ?_; (rw [info47, IK.out])) | (refine wpList_load_row rfl 28 _ rfl wr.heap.size rfl 28 (byts b9).toArray (0, 0) _ R9.out Tryz.underlying28 rfl ?_ ?_; (rw [info51, IB.out])) | (go_at_call 12; refine (HDR.out _).mono ?_; rintro e w8 ⟨rfl, hb8⟩) | (refine wpList_store_row rfl 27 _ _ rfl w8.heap.size LC.toArray rfl rfl 27 _ (Row.new w8 27 zero11) ?_ ?_ ?_ ?_; (rw [infoRP, IC.out.2]); (rw [IC.out.2]; rfl); (simpa using HOC.out)))
        have q10 : Below wr.heap.size wr ((w8.alloc (.cells zero11.toArray 27)).setRow w8.heap.size LC.toArray) := (Q9.out.trans (hb8.mono Q9.out.size)).trans ((new_below _ _ _).mono (Nat.le_trans Q9.out.size hb8.size))
        refine genS (fun V => Row V w8.heap.size 27 LC ∧ Below wr.heap.size wr V) ⟨new_row w8 27 zero11 LC, q10⟩ ?_
        clear q10 hb8 R9 Q9 HK2 HDR IB IK
        rintro wc ⟨r10, hbw⟩
        have HRow := Lib.hid r10
        have HBw := Lib.hid (HB.out.trans (hbw.mono HB.out.size))
        have Hv' := Lib.hid (owns_below Hv.out hbw)
        have Hu' := Lib.hid (owns_below Hu.out hbw)
        have Hkey' := Lib.hid (Hkey.out.old hbw)
        have Hszc : Hid (w.heap.size + 1 ≤ wc.heap.size) := Hkey'.out.lt
        clear r10 hbw Hv Hu Hkey HB Hsz
        by_cases hD : DE = 0
        · have hD2 : (DE == 0) = true := by simpa using hD
          have HBG : Hid (begE [k0, k1, k2, k3, k4, k5, k6, k7] (bs.drop k) = true ∧ begC [k0, k1, k2, k3, k4, k5, k6, k7] (bs.drop k) = LC) := ⟨by rw [HBG9'.out.1, hD2], HBG9'.out.2⟩
          have Hgo2 : Hid (recvGo [k0, k1, k2, k3, k4, k5, k6, k7] bs f (k + 29) (ps ++ [LC]) sp = recvL [k0, k1, k2, k3, k4, k5, k6, k7] bs) := by
            unfold Hid; rw [← Hgo.out, recvGo, if_pos Hlt.out, if_pos HBG.out.1, HBG.out.2]
          have Hd2 : Hid (u7.ownBlock = none ∨ u7.ownBlock ≠ u6.ownBlock) := dis_symm Hd.out
          have Hpl : Hid (ps.length ≤ 29696) := by have := Hps.out; have := Hm.out; unfold Hid; omega
          clear hD HBG9' Hgo
          obtain ⟨st, ct, ln, x0, x1, x2, x3, x4, x5, x6, x7, hform⟩ := begC_form [k0, k1, k2, k3, k4, k5, k6, k7] (bs.drop k)
          rw [HBG.out.2] at hform
          clear HBG
          subst hform
          go_wp2_with (first
            | (refine wpList_load_row rfl 27 _ rfl w8.heap.size rfl 27 #[.int .i64 st, .int .i64 ct, .int .i64 ln, .float .f32 x0, .float .f32 x1, .float .f32 x2, .float .f32 x3, .float .f32 x4, .float .f32 x5, .float .f32 x6, .float .f32 x7] (0, 0) _ HRow.out Tryz.underlying27 rfl ?_ ?_; (rw [infoRP]; rfl))
            | (at_builtin; refine wpList_append_own_at _ rfl _ _ 51 rfl (w.heap.size + 1) 27 ip (.agg #[.int .i64 0, .int .i64 0, .int .i64 0, .float .f32 0, .float .f32 0, .float .f32 0, .float .f32 0, .float .f32 0, .float .f32 0, .float .f32 0, .float .f32 0]) 11 56 Tryz.underlying51 hip0 hip1 hip2 hip3 rfl (by decide) _ ps.length ps.flatten rfl (Hv'.out.alloc _) ⟨wc.heap.size, 0, none⟩ 1 1 [.int .i64 st, .int .i64 ct, .int .i64 ln, .float .f32 x0, .float .f32 x1, .float .f32 x2, .float .f32 x3, .float .f32 x4, .float .f32 x5, .float .f32 x6, .float .f32 x7] rfl rfl (news11 _ _ _ _ rfl) ?c2 ?c3 ?c4 ?c5 ?_))
          case c2 => simp [Value.oneCell']
          case c3 => have := Hpl.out; unfold maxLen; omega
          case c4 => have := Hpl.out; omega
          case c5 => have := Hszc.out; simp; omega
          intro v' w3 ho hg3 _ hat
          have hst : Step wc w3 u6 v' := Step.of_alloc hg3 (by rw [World.size_alloc]; exact hat)
          have Hk1 := Lib.hid (hst.keep Hu'.out Hd2.out)
          have Hb1 := Lib.hid (hst.below Hv'.out Hszc.out)
          have Ho : Hid (w3.ownsRow (w.heap.size + 1) 27 11 v' (ps ++ [pkC st ct ln [x0, x1, x2, x3, x4, x5, x6, x7]]).length (ps ++ [pkC st ct ln [x0, x1, x2, x3, x4, x5, x6, x7]]).flatten) := by
            unfold Hid; simpa [pkC, flts] using ho
          clear ho hst hat hg3
          go_wp2
          go_roundg f
          case measure => omega
          case rel =>
            exact ⟨k + 29, by have := Hfit.out; omega, by go_num, ps ++ [pkC st ct ln [x0, x1, x2, x3, x4, x5, x6, x7]], sp, by have := Hps.out; simp; omega, by have := Hsp.out; omega, by have := Hfu.out; omega, Hgo2.out, Ho.out, Hk1.out.1, dis_symm Hk1.out.2, Hkey'.out.below Hb1.out (by omega), HBw.out.trans (Hb1.out.mono (by omega))⟩
        · have hD2 : (DE == 0) = false := by simpa using hD
          have HBG : Hid (begE [k0, k1, k2, k3, k4, k5, k6, k7] (bs.drop k) = false) := by unfold Hid; rw [HBG9'.out.1, hD2]
          clear hD HBG9'
          have Hgo2 : Hid (recvGo [k0, k1, k2, k3, k4, k5, k6, k7] bs f (k + 1) ps (widL sp k) = recvL [k0, k1, k2, k3, k4, k5, k6, k7] bs) := by
            unfold Hid; rw [← Hgo.out, recvGo, if_pos Hlt.out, HBG.out]; rfl
          have hl6 : sp.length ≤ 1000000 := by have := Hsp.out; have := Hm.out; have := Hlt.out; omega
          have hi9 : (0 : Int) ≤ (k : Int) ∧ (k : Int) ≤ 1000000000 := by have := Hm.out; have := Hlt.out; omega
          have Hl6 := Lib.hid hl6; have Hi9 := Lib.hid hi9
          clear hl6 hi9
          go_wp2_with fail
          refine (widenR_any (w.heap.size + 1) u7 sp (k : Int) _ Hu'.out Hszc.out Hl6.out Hi9.out).mono ?_
          rintro e w3 ⟨u', rfl, ho, hst⟩
          have Hk1 := Lib.hid (hst.keep Hv'.out Hd.out)
          have Hb1 := Lib.hid (hst.below Hu'.out Hszc.out)
          have Ho := Lib.hid ho
          have hwl := widL_le sp k
          have Hwl := Lib.hid hwl
          clear ho hst hwl
          go_wp2
          go_roundg f
          case measure => omega
          case rel =>
            exact ⟨k + 1, by have := Hlt.out; omega, by go_num, ps, widL sp k, by have := Hps.out; omega, by have := Hwl.out; have := Hsp.out; omega, by have := Hfu.out; omega, Hgo2.out, Hk1.out.1, Ho.out, Hk1.out.2, Hkey'.out.below Hb1.out (by omega), HBw.out.trans (Hb1.out.mono (by omega))⟩
      · have HBG : Hid (begE [k0, k1, k2, k3, k4, k5, k6, k7] (bs.drop k) = false) := by unfold Hid begE; rw [if_pos (by simp; omega)]
        have Hv' := Hv; have Hu' := Hu; have Hkey' := Hkey; have HBw := HB; have Hszc : Hid (w.heap.size + 1 ≤ wr.heap.size) := Hsz.out
        have j1 : ¬ ((k : Int) + 29 ≤ (bs.length : Int)) := by omega
        clear Hv Hu Hkey HB
        have Hgo2 : Hid (recvGo [k0, k1, k2, k3, k4, k5, k6, k7] bs f (k + 1) ps (widL sp k) = recvL [k0, k1, k2, k3, k4, k5, k6, k7] bs) := by
          unfold Hid; rw [← Hgo.out, recvGo, if_pos Hlt.out, HBG.out]; rfl
        have hl6 : sp.length ≤ 1000000 := by have := Hsp.out; have := Hm.out; have := Hlt.out; omega
        have hi9 : (0 : Int) ≤ (k : Int) ∧ (k : Int) ≤ 1000000000 := by have := Hm.out; have := Hlt.out; omega
        have Hl6 := Lib.hid hl6; have Hi9 := Lib.hid hi9
        clear hl6 hi9
        go_wp2_with fail
        refine (widenR_any (w.heap.size + 1) u7 sp (k : Int) _ Hu'.out Hszc.out Hl6.out Hi9.out).mono ?_
        rintro e w3 ⟨u', rfl, ho, hst⟩
        have Hk1 := Lib.hid (hst.keep Hv'.out Hd.out)
        have Hb1 := Lib.hid (hst.below Hu'.out Hszc.out)
        have Ho := Lib.hid ho
        have hwl := widL_le sp k
        have Hwl := Lib.hid hwl
        clear ho hst hwl
        go_wp2
        go_roundg f
        case measure => omega
        case rel =>
          exact ⟨k + 1, by have := Hlt.out; omega, by go_num, ps, widL sp k, by have := Hps.out; omega, by have := Hwl.out; have := Hsp.out; omega, by have := Hfu.out; omega, Hgo2.out, Hk1.out.1, Ho.out, Hk1.out.2, Hkey'.out.below Hb1.out (by omega), HBw.out.trans (Hb1.out.mono (by omega))⟩
    · obtain ⟨ps, sp, hps, hsp, hfu, hgo, hv, hu, hd, hkey, hB⟩ := HI.out
      have hend : recvGo [k0, k1, k2, k3, k4, k5, k6, k7] bs gk k ps sp = (ps, sp) := by
        cases gk with
        | zero => rfl
        | succ f => rw [recvGo, if_neg hlt]
      have Hend : Hid (recvL [k0, k1, k2, k3, k4, k5, k6, k7] bs = (ps, sp)) := by unfold Hid; rw [← hgo, hend]
      have Hv := Lib.hid hv; have Hu := Lib.hid hu; have HB := Lib.hid hB
      clear hps hsp hfu hgo hv hu hd hkey hB hend
      go_wp2
      go_ret2
      exact ⟨_, _, rfl, by rw [Hend.out]; exact Hv.out, by rw [Hend.out]; exact Hu.out, HB.out⟩
end Go.Proofs.YtipligklkkiejaaGreatDoor

/- The law of what is received, walked. -/
namespace Go.Proofs.YtipligklkkiejaaGreatDoor
set_option linter.all false
open Go.RowKit Go.Fl
set_option linter.unusedVariables false
set_option linter.unusedSimpArgs false

theorem received_bad (k0 k1 k2 k3 k4 k5 k6 k7 : Int) (A : Option Addr) (n c : Nat) (bs : List UInt8) (w : World) (hn : n = bs.length) (hm : 29696 < bs.length) (hmb : bs.length ≤ 9223372036854775807) :
    Calls Tryz.prog 15 #[.agg #[.int .u8 k0, .int .u8 k1, .int .u8 k2, .int .u8 k3, .int .u8 k4, .int .u8 k5, .int .u8 k6, .int .u8 k7], .slice A n c] w
      fun e w' => e = .returned (.tuple #[.slice none 0 0, .slice none 0 0, .int .i64 26]) ∧ Below w.heap.size w w' := by
  subst hn
  have g1 : (29696 : Int) < (bs.length : Int) := by omega
  go_enter Tryz.func15, Tryz.ntmps15
  go_wp2
  go_ret3
  exact ⟨rfl, (Below.refl _ _).alloc (Nat.le_refl _) _⟩
theorem begC_form2 (key : List Int) (bs : List UInt8) : ∃ p : PkT, begC key bs = pkV p ∧ p.2.2.2.length = 8 ∧ sameF p.2.2.2 p.2.2.2 = true := by
  unfold begC
  split
  · exact ⟨(0, 0, 0, [0, 0, 0, 0, 0, 0, 0, 0]), rfl, rfl, sameF_refl _ (fun x hx => by simp at hx; subst hx; exact sampI_zero)⟩
  · obtain ⟨st, ct, ln, ys, h, h8, hs⟩ := decC_form key (bs.take 29)
    exact ⟨(st, ct, ln, ys), h, h8, hs⟩
theorem recvGo_pks (key : List Int) (bs : List UInt8) : ∀ (f i : Nat) (ps : List (List Value)) (sp : List (Int × Int)) (PL : List PkT), ps.flatten = pksC PL → ps.length = PL.length → pks8 PL → pksS PL →
    ∃ QL : List PkT, (recvGo key bs f i ps sp).1.flatten = pksC QL ∧ (recvGo key bs f i ps sp).1.length = QL.length ∧ pks8 QL ∧ pksS QL ∧ QL.length ≤ PL.length + f ∧ (recvGo key bs f i ps sp).2.length ≤ sp.length + f
  | 0, i, ps, sp, PL, h1, h2, h3, h4 => ⟨PL, h1, h2, h3, h4, Nat.le_refl _, Nat.le_refl _⟩
  | f + 1, i, ps, sp, PL, h1, h2, h3, h4 => by
    rw [recvGo]
    split
    · split
      · obtain ⟨p, hp, hp8, hps⟩ := begC_form2 key (bs.drop i)
        obtain ⟨QL, a1, a2, a3, a4, a5, a6⟩ := recvGo_pks key bs f (i + 29) (ps ++ [begC key (bs.drop i)]) sp (PL ++ [p])
          (by rw [List.flatten_append, h1, hp]; unfold pksC; rw [List.flatMap_append]; simp) (by simp [h2])
          (fun q hq => by rcases List.mem_append.1 hq with h | h; exact h3 q h; simp at h; subst h; exact hp8)
          (fun q hq => by rcases List.mem_append.1 hq with h | h; exact h4 q h; simp at h; subst h; exact hps)
        exact ⟨QL, a1, a2, a3, a4, by simp at a5; omega, by omega⟩
      · obtain ⟨QL, a1, a2, a3, a4, a5, a6⟩ := recvGo_pks key bs f (i + 1) ps (widL sp i) PL h1 h2 h3 h4
        have := widL_le sp i
        exact ⟨QL, a1, a2, a3, a4, by omega, by omega⟩
    · exact ⟨PL, h1, h2, h3, h4, by omega, by simp⟩

/-- the key where it lies, and what was below -/
def RvS (w : World) (LK : List Value) (B : Option Addr) (bs : List UInt8) (W : World) : Prop := Row W w.heap.size 23 LK ∧ Rd W B (byts bs) ∧ Aw W ∧ Below w.heap.size w W
theorem RvS.keep {w W W' : World} {LK : List Value} {B : Option Addr} {bs : List UInt8} (h : RvS w LK B bs W) (hb : Below W.heap.size W W') : RvS w LK B bs W' :=
  ⟨h.1.old hb, h.2.1.below hb, h.2.2.1.old hb, h.2.2.2.trans (hb.mono h.2.2.2.size)⟩
theorem RvS.new {w : World} {LK : List Value} {B : Option Addr} {bs : List UInt8} (hA : Aw w) (hB : Rd w B (byts bs)) : RvS w LK B bs (w.alloc (.cells LK.toArray 23)) := by
  have hb : Below w.heap.size w (w.alloc (.cells LK.toArray 23)) := (Below.refl _ _).alloc (Nat.le_refl _) _
  exact ⟨Row.new w 23 LK, hB.below hb, hA.old hb, hb⟩

set_option maxRecDepth 100000 in
set_option maxHeartbeats 1000000 in
theorem receives_far (haw : AwakeOk) (LK : List Value) (B : Option Addr) (d : Nat) (bs : List UInt8) (w : World) (haW : Aw w) (lK : LK.length = 8) (hB : Rd w B (byts bs)) (hdb : bs.length ≤ d) (hcb : B = none → d = 0) (hmb : bs.length ≤ 9223372036854775807) (h3 : 300 < bs.length) (h4 : bs.length ≠ 29697) :
    Calls Tryz.prog 4 #[.agg LK.toArray, .slice B bs.length d] w fun e w' => e = .returned (.bool true) ∧ Below w.heap.size w w' := by
  have HS0 := Lib.hid (RvS.new (LK := LK) haW hB)
  have g1 : (300 : Int) < (bs.length : Int) := by omega
  have g2 : ((bs.length : Int) != 29697) = true := by rw [bne_iff_ne]; omega
  clear haW hB
  go_enter Tryz.func4, Tryz.ntmps4
  go_wp2_with fail
  refine (haw _ HS0.out.2.2.1).mono ?_
  rintro e w2 ⟨rfl, hb⟩
  have HS1 := Lib.hid (HS0.out.keep hb)
  clear hb HS0
  go_wp2
  go_ret
  exact ⟨rfl, HS1.out.2.2.2⟩

set_option maxRecDepth 100000 in
set_option maxHeartbeats 2000000 in
theorem receives_good (haw : AwakeOk) (LK : List Value) (B : Option Addr) (d : Nat) (bs : List UInt8) (w : World) (haW : Aw w) (lK : LK.length = 8) (hB : Rd w B (byts bs)) (hdb : bs.length ≤ d) (hcb : B = none → d = 0) (hmb : bs.length ≤ 9223372036854775807) (PL : List PkT) (SL : List (Int × Int)) (h8 : pks8 PL) (hsS : pksS PL) (hPl : PL.length ≤ 1000000) (hSl : SL.length ≤ 1000000)
    (hRec : ∀ W A c, bs.length ≤ c → Rd W A (byts bs) → Calls Tryz.prog 15 #[.agg LK.toArray, .slice A bs.length c] W fun e w' => ∃ PA pc SA sc, e = .returned (.tuple #[.slice PA PL.length pc, .slice SA SL.length sc, .int .i64 0]) ∧ Rd w' PA (pksC PL) ∧ Rd w' SA (spanC SL) ∧ Below W.heap.size W w')
    (hRR : ∀ W A c, bs.length ≤ c → Rd W A (byts bs) → Calls Tryz.prog 17 #[.agg LK.toArray, .slice A bs.length c] W fun e w' => ∃ PA pc SA sc, e = .returned (.tuple #[.slice PA PL.length pc, .slice SA SL.length sc]) ∧ Rd w' PA (pksC PL) ∧ Rd w' SA (spanC SL) ∧ Below W.heap.size W w')
    (h3 : bs.length ≤ 300) :
    Calls Tryz.prog 4 #[.agg LK.toArray, .slice B bs.length d] w fun e w' => e = .returned (.bool true) ∧ Below w.heap.size w w' := by
  have HS0 := Lib.hid (RvS.new (LK := LK) haW hB)
  have HREC := Lib.hid hRec
  have IK : Hid (some LK.length = some 8 ∧ LK.toArray.size = 8) := ⟨by rw [lK], by simp [lK]⟩
  have H8 := Lib.hid h8; have HSS := Lib.hid hsS; have HPl := Lib.hid hPl; have HSl := Lib.hid hSl; have Hdb := Lib.hid hdb
  have HBY : Hid (∀ W, Rd W B (byts bs) → Calls Tryz.prog 9 #[.slice B bs.length d] W fun e w' => ∃ A c, e = .returned (.slice A bs.length c) ∧ bs.length ≤ c ∧ Rd w' A (byts bs) ∧ Below W.heap.size W w') := fun W hr => by
    refine (bytes_any B bs.length d bs W hr rfl hcb (by omega)).mono ?_
    rintro e w' ⟨v, rfl, ho, hb⟩
    obtain ⟨A, c, rfl, hA, _, hc⟩ := owned_spot ho
    exact ⟨A, c, rfl, hc, hA, hb⟩
  have HRR := Lib.hid hRR
  have g1 : decide ((300 : Int) < (bs.length : Int)) = false := decide_eq_false (by omega)
  have g3 : decide ((29696 : Int) < (bs.length : Int)) = false := decide_eq_false (by omega)
  clear hRR
  clear haW hB hRec lK h8 hsS hPl hSl hdb h3
  go_enter Tryz.func4, Tryz.ntmps4
  go_upto_region 3 with fail
  refine genS (RvS w LK B bs) HS0.out ?_
  clear HS0
  intro W1 s1
  have HS1 := Lib.hid s1
  clear s1
  refine wp_region_held_drew (S := fun V => Below W1.heap.size W1 V) (by kernel_rfl) ?_ (fun hHeld => ?_)
  · exact (Below.refl _ _).drew
  refine wpAnyH_take (i := 0) (oi := ⟨some 21, _, _, _, _, _⟩) (v := .agg LK.toArray) rfl (by kernel_rfl) (by kernel_rfl) (by kernel_rfl) (fun _ _ _ h => h) (Or.inl ⟨by kernel_rfl, fun V hV => ex_row 23 _ rfl w.heap.size rfl 23 LK _ Tryz.underlying23 rfl (by rw [info47, IK.out.1]) (HS1.out.keep hV).1⟩) hHeld ?_
  try simp only [Act.put, List.setIfInBounds_toArray, List.set_cons_zero, List.set_cons_succ]
  refine wpAnyH_take (i := 1) (oi := ⟨some 22, _, _, _, _, _⟩) (v := ?_) rfl (by kernel_rfl) (by kernel_rfl) (by kernel_rfl) (fun _ _ _ h => h) (Or.inl ⟨by kernel_rfl, ?_⟩) hHeld ?_
  rotate_left
  · intro w1 hSw; (try dsimp only at hSw); go_simp <;> with_reducible rfl
  try simp only [Act.put, List.setIfInBounds_toArray, List.set_cons_zero, List.set_cons_succ]
  refine wpAnyH_ready (rs := [2]) (by kernel_rfl) (by simp) ?_
  refine AllReadyH.cons rfl (fun K hK => ?_) AllReadyH.nil
  go_simp
  go_at_call 9
  refine (HBY.out _ (HS1.out.keep hHeld).2.1).mono ?_
  rintro e v1 ⟨A1, c1, rfl, hc1, hr1, hb1⟩
  have HR1 := Lib.hid hr1
  try go_simp
  refine hK.out _ _ ?_ (fun hHeld => ?_)
  · exact hHeld.trans (hb1.mono hHeld.size)
  clear hK K
  try simp only [Act.put, List.setIfInBounds_toArray, List.set_cons_zero, List.set_cons_succ]
  refine wpAnyH_ready (rs := [3]) (by kernel_rfl) (by simp) ?_
  refine AllReadyH.cons rfl (fun K hK => ?_) AllReadyH.nil
  go_simp
  go_at_call 15
  refine (HREC.out _ _ _ hc1 HR1.out).mono ?_
  rintro e v2 ⟨PA, pc, SA, sc, rfl, hp, hs, hb2⟩
  have HP := Lib.hid hp; have HSP := Lib.hid hs
  clear hp hs
  try go_simp
  refine hK.out _ _ ?_ (fun hHeld => ?_)
  · exact hHeld.trans (hb2.mono hHeld.size)
  clear hK K
  try simp only [Act.put, List.setIfInBounds_toArray, List.set_cons_zero, List.set_cons_succ]
  refine wpAnyH_take (i := 4) (oi := ⟨some 20, _, _, _, _, _⟩) (v := ?_) rfl (by kernel_rfl) (by kernel_rfl) (by kernel_rfl) (fun _ _ _ h => h) (Or.inl ⟨by kernel_rfl, ?_⟩) hHeld ?_
  rotate_left
  · intro w1 hSw; (try dsimp only at hSw); go_simp <;> with_reducible rfl
  try simp only [Act.put, List.setIfInBounds_toArray, List.set_cons_zero, List.set_cons_succ]
  refine wpAnyH_take (i := 5) (oi := ⟨some 25, _, _, _, _, _⟩) (v := ?_) rfl (by kernel_rfl) (by kernel_rfl) (by kernel_rfl) (fun _ _ _ h => h) (Or.inl ⟨by kernel_rfl, ?_⟩) hHeld ?_
  rotate_left
  · intro w1 hSw; (try dsimp only at hSw); go_simp <;> with_reducible rfl
  try simp only [Act.put, List.setIfInBounds_toArray, List.set_cons_zero, List.set_cons_succ]
  refine wpAnyH_take (i := 6) (oi := ⟨some 26, _, _, _, _, _⟩) (v := ?_) rfl (by kernel_rfl) (by kernel_rfl) (by kernel_rfl) (fun _ _ _ h => h) (Or.inl ⟨by kernel_rfl, ?_⟩) hHeld ?_
  rotate_left
  · intro w1 hSw; (try dsimp only at hSw); go_simp <;> with_reducible rfl
  try simp only [Act.put, List.setIfInBounds_toArray, List.set_cons_zero, List.set_cons_succ]
  refine wpAnyH_take (i := 7) (oi := ⟨some 27, _, _, _, _, _⟩) (v := ?_) rfl (by kernel_rfl) (by kernel_rfl) (by kernel_rfl) (fun _ _ _ h => h) (Or.inl ⟨by kernel_rfl, ?_⟩) hHeld ?_
  rotate_left
  · intro w1 hSw; (try dsimp only at hSw); go_simp <;> with_reducible rfl
  try simp only [Act.put, List.setIfInBounds_toArray, List.set_cons_zero, List.set_cons_succ]
  refine wpAnyH_take (i := 8) (oi := ⟨some 5, _, _, _, _, _⟩) (v := ?_) rfl (by kernel_rfl) (by kernel_rfl) (by kernel_rfl) (fun _ _ _ h => h) (Or.inl ⟨by kernel_rfl, ?_⟩) hHeld ?_
  rotate_left
  · intro w1 hSw; (try dsimp only at hSw); go_simp <;> with_reducible rfl
  try simp only [Act.put, List.setIfInBounds_toArray, List.set_cons_zero, List.set_cons_succ]
  refine wpAnyH_take (i := 9) (oi := ⟨some 6, _, _, _, _, _⟩) (v := ?_) rfl (by kernel_rfl) (by kernel_rfl) (by kernel_rfl) (fun _ _ _ h => h) (Or.inl ⟨by kernel_rfl, ?_⟩) hHeld ?_
  rotate_left
  · intro w1 hSw; (try dsimp only at hSw); go_simp <;> with_reducible rfl
  try simp only [Act.put, List.setIfInBounds_toArray, List.set_cons_zero, List.set_cons_succ]
  refine wpAnyH_take (i := 10) (oi := ⟨some 7, _, _, _, _, _⟩) (v := ?_) rfl (by kernel_rfl) (by kernel_rfl) (by kernel_rfl) (fun _ _ _ h => h) (Or.inl ⟨by kernel_rfl, ?_⟩) hHeld ?_
  rotate_left
  · intro w1 hSw; (try dsimp only at hSw); go_simp <;> with_reducible rfl
  try simp only [Act.put, List.setIfInBounds_toArray, List.set_cons_zero, List.set_cons_succ]
  refine wpAnyH_done (by kernel_rfl) ?_ _
  have HS4 := Lib.hid (HS1.out.keep hHeld)
  clear hHeld HR1 HBY HREC HS1
  clear hb1 hb2
  refine genS (fun V => RvS w LK B bs V ∧ Rd V PA (pksC PL) ∧ Rd V SA (spanC SL)) ⟨HS4.out, HP.out, HSP.out⟩ ?_
  clear HS4 HP HSP
  rintro W4 ⟨s4, p4, q4⟩
  have HS4 := Lib.hid s4; have HP := Lib.hid p4; have HSP := Lib.hid q4
  clear s4 p4 q4
  go_wp2_with fail
  refine (when_f 26 _).mono ?_
  rintro e w5 ⟨rfl, rfl⟩
  go_wp2_with (first | (refine wpList_load_row rfl 23 _ rfl w.heap.size rfl 23 LK.toArray (0, 0) _ HS4.out.1 Tryz.underlying23 rfl ?_ ?_; (rw [info47, IK.out.2])) | (go_at_call 17; refine (HRR.out _ _ _ Hdb.out HS4.out.2.1).mono ?_; rintro e w6 ⟨QA, qc, TA, tc, rfl, hq, ht, hb6⟩))
  have HQ := Lib.hid hq; have HT := Lib.hid ht
  have HS6 := Lib.hid (HS4.out.keep hb6); have HP6 := Lib.hid (HP.out.below hb6); have HSP6 := Lib.hid (HSP.out.below hb6)
  clear hq ht hb6 HS4 HP HSP HRR
  go_wp2_with fail
  refine (packets_any PA PL.length pc PL _ HP6.out H8.out rfl HPl.out).mono ?_
  rintro e w7 ⟨v7, rfl, ho, hb7⟩
  obtain ⟨CA, cc, rfl, hC⟩ := owned_slice ho
  have HC := Lib.hid hC
  have HS7 := Lib.hid (HS6.out.keep hb7); have HQ7 := Lib.hid (HQ.out.below hb7); have HSP7 := Lib.hid (HSP6.out.below hb7); have HT7 := Lib.hid (HT.out.below hb7)
  clear ho hC hb7 HS6 HP6 HSP6 HQ HT
  go_wp2_with fail
  refine (samePackets_any CA QA PL.length PL.length cc qc PL _ HC.out HQ7.out H8.out HSS.out rfl rfl HPl.out).mono ?_
  rintro e w8 ⟨rfl, hb8⟩
  have HS8 := Lib.hid (HS7.out.keep hb8); have HSP8 := Lib.hid (HSP7.out.below hb8); have HT8 := Lib.hid (HT7.out.below hb8)
  clear hb8 HS7 HSP7 HT7 HQ7 HC
  go_wp2_with fail
  refine (sameSpans_any SA TA SL.length SL.length sc tc SL SL _ HSP8.out HT8.out rfl rfl (by have := HSl.out; omega)).mono ?_
  rintro e w9 ⟨rfl, q, rfl⟩
  rw [sameSp_refl]
  have HS9 := Lib.hid (HS8.out.keep (below_drewN (Below.refl _ _) q))
  clear HS8 HSP8 HT8
  go_wp2_with fail
  refine (haw _ HS9.out.2.2.1).mono ?_
  rintro e w10 ⟨rfl, hb10⟩
  have HS10 := Lib.hid (HS9.out.keep hb10)
  clear hb10 HS9
  go_wp2
  go_ret
  exact ⟨rfl, HS10.out.2.2.2⟩

set_option maxRecDepth 100000 in
set_option maxHeartbeats 2000000 in
theorem receives_long (haw : AwakeOk) (LK : List Value) (B : Option Addr) (d : Nat) (bs : List UInt8) (w : World) (haW : Aw w) (lK : LK.length = 8) (hB : Rd w B (byts bs)) (hdb : bs.length ≤ d) (hcb : B = none → d = 0) (hmb : bs.length ≤ 9223372036854775807) 
    (hRec : ∀ W A c, bs.length ≤ c → Rd W A (byts bs) → Calls Tryz.prog 15 #[.agg LK.toArray, .slice A bs.length c] W fun e w' => e = .returned (.tuple #[.slice none 0 0, .slice none 0 0, .int .i64 26]) ∧ Below W.heap.size W w')
    (h3 : bs.length = 29697) :
    Calls Tryz.prog 4 #[.agg LK.toArray, .slice B bs.length d] w fun e w' => e = .returned (.bool true) ∧ Below w.heap.size w w' := by
  have HS0 := Lib.hid (RvS.new (LK := LK) haW hB)
  have HREC := Lib.hid hRec
  have IK : Hid (some LK.length = some 8 ∧ LK.toArray.size = 8) := ⟨by rw [lK], by simp [lK]⟩
  
  have HBY : Hid (∀ W, Rd W B (byts bs) → Calls Tryz.prog 9 #[.slice B bs.length d] W fun e w' => ∃ A c, e = .returned (.slice A bs.length c) ∧ bs.length ≤ c ∧ Rd w' A (byts bs) ∧ Below W.heap.size W w') := fun W hr => by
    refine (bytes_any B bs.length d bs W hr rfl hcb (by omega)).mono ?_
    rintro e w' ⟨v, rfl, ho, hb⟩
    obtain ⟨A, c, rfl, hA, _, hc⟩ := owned_spot ho
    exact ⟨A, c, rfl, hc, hA, hb⟩
  have g1 : (300 : Int) < (bs.length : Int) := by omega
  have g2 : ((bs.length : Int) != 29697) = false := by rw [bne_eq_false_iff_eq]; omega
  have g3 : decide ((29696 : Int) < (bs.length : Int)) = true := decide_eq_true (by omega)
  clear haW hB hRec lK  hdb h3
  go_enter Tryz.func4, Tryz.ntmps4
  go_upto_region 3 with fail
  refine genS (RvS w LK B bs) HS0.out ?_
  clear HS0
  intro W1 s1
  have HS1 := Lib.hid s1
  clear s1
  refine wp_region_held_drew (S := fun V => Below W1.heap.size W1 V) (by kernel_rfl) ?_ (fun hHeld => ?_)
  · exact (Below.refl _ _).drew
  refine wpAnyH_take (i := 0) (oi := ⟨some 21, _, _, _, _, _⟩) (v := .agg LK.toArray) rfl (by kernel_rfl) (by kernel_rfl) (by kernel_rfl) (fun _ _ _ h => h) (Or.inl ⟨by kernel_rfl, fun V hV => ex_row 23 _ rfl w.heap.size rfl 23 LK _ Tryz.underlying23 rfl (by rw [info47, IK.out.1]) (HS1.out.keep hV).1⟩) hHeld ?_
  try simp only [Act.put, List.setIfInBounds_toArray, List.set_cons_zero, List.set_cons_succ]
  refine wpAnyH_take (i := 1) (oi := ⟨some 22, _, _, _, _, _⟩) (v := ?_) rfl (by kernel_rfl) (by kernel_rfl) (by kernel_rfl) (fun _ _ _ h => h) (Or.inl ⟨by kernel_rfl, ?_⟩) hHeld ?_
  rotate_left
  · intro w1 hSw; (try dsimp only at hSw); go_simp <;> with_reducible rfl
  try simp only [Act.put, List.setIfInBounds_toArray, List.set_cons_zero, List.set_cons_succ]
  refine wpAnyH_ready (rs := [2]) (by kernel_rfl) (by simp) ?_
  refine AllReadyH.cons rfl (fun K hK => ?_) AllReadyH.nil
  go_simp
  go_at_call 9
  refine (HBY.out _ (HS1.out.keep hHeld).2.1).mono ?_
  rintro e v1 ⟨A1, c1, rfl, hc1, hr1, hb1⟩
  have HR1 := Lib.hid hr1
  try go_simp
  refine hK.out _ _ ?_ (fun hHeld => ?_)
  · exact hHeld.trans (hb1.mono hHeld.size)
  clear hK K
  try simp only [Act.put, List.setIfInBounds_toArray, List.set_cons_zero, List.set_cons_succ]
  refine wpAnyH_ready (rs := [3]) (by kernel_rfl) (by simp) ?_
  refine AllReadyH.cons rfl (fun K hK => ?_) AllReadyH.nil
  go_simp
  go_at_call 15
  refine (HREC.out _ _ _ hc1 HR1.out).mono ?_
  rintro e v2 ⟨rfl, hb2⟩
  try go_simp
  refine hK.out _ _ ?_ (fun hHeld => ?_)
  · exact hHeld.trans (hb2.mono hHeld.size)
  clear hK K
  try simp only [Act.put, List.setIfInBounds_toArray, List.set_cons_zero, List.set_cons_succ]
  refine wpAnyH_take (i := 4) (oi := ⟨some 20, _, _, _, _, _⟩) (v := ?_) rfl (by kernel_rfl) (by kernel_rfl) (by kernel_rfl) (fun _ _ _ h => h) (Or.inl ⟨by kernel_rfl, ?_⟩) hHeld ?_
  rotate_left
  · intro w1 hSw; (try dsimp only at hSw); go_simp <;> with_reducible rfl
  try simp only [Act.put, List.setIfInBounds_toArray, List.set_cons_zero, List.set_cons_succ]
  refine wpAnyH_take (i := 5) (oi := ⟨some 25, _, _, _, _, _⟩) (v := ?_) rfl (by kernel_rfl) (by kernel_rfl) (by kernel_rfl) (fun _ _ _ h => h) (Or.inl ⟨by kernel_rfl, ?_⟩) hHeld ?_
  rotate_left
  · intro w1 hSw; (try dsimp only at hSw); go_simp <;> with_reducible rfl
  try simp only [Act.put, List.setIfInBounds_toArray, List.set_cons_zero, List.set_cons_succ]
  refine wpAnyH_take (i := 6) (oi := ⟨some 26, _, _, _, _, _⟩) (v := ?_) rfl (by kernel_rfl) (by kernel_rfl) (by kernel_rfl) (fun _ _ _ h => h) (Or.inl ⟨by kernel_rfl, ?_⟩) hHeld ?_
  rotate_left
  · intro w1 hSw; (try dsimp only at hSw); go_simp <;> with_reducible rfl
  try simp only [Act.put, List.setIfInBounds_toArray, List.set_cons_zero, List.set_cons_succ]
  refine wpAnyH_take (i := 7) (oi := ⟨some 27, _, _, _, _, _⟩) (v := ?_) rfl (by kernel_rfl) (by kernel_rfl) (by kernel_rfl) (fun _ _ _ h => h) (Or.inl ⟨by kernel_rfl, ?_⟩) hHeld ?_
  rotate_left
  · intro w1 hSw; (try dsimp only at hSw); go_simp <;> with_reducible rfl
  try simp only [Act.put, List.setIfInBounds_toArray, List.set_cons_zero, List.set_cons_succ]
  refine wpAnyH_take (i := 8) (oi := ⟨some 5, _, _, _, _, _⟩) (v := ?_) rfl (by kernel_rfl) (by kernel_rfl) (by kernel_rfl) (fun _ _ _ h => h) (Or.inl ⟨by kernel_rfl, ?_⟩) hHeld ?_
  rotate_left
  · intro w1 hSw; (try dsimp only at hSw); go_simp <;> with_reducible rfl
  try simp only [Act.put, List.setIfInBounds_toArray, List.set_cons_zero, List.set_cons_succ]
  refine wpAnyH_take (i := 9) (oi := ⟨some 6, _, _, _, _, _⟩) (v := ?_) rfl (by kernel_rfl) (by kernel_rfl) (by kernel_rfl) (fun _ _ _ h => h) (Or.inl ⟨by kernel_rfl, ?_⟩) hHeld ?_
  rotate_left
  · intro w1 hSw; (try dsimp only at hSw); go_simp <;> with_reducible rfl
  try simp only [Act.put, List.setIfInBounds_toArray, List.set_cons_zero, List.set_cons_succ]
  refine wpAnyH_take (i := 10) (oi := ⟨some 7, _, _, _, _, _⟩) (v := ?_) rfl (by kernel_rfl) (by kernel_rfl) (by kernel_rfl) (fun _ _ _ h => h) (Or.inl ⟨by kernel_rfl, ?_⟩) hHeld ?_
  rotate_left
  · intro w1 hSw; (try dsimp only at hSw); go_simp <;> with_reducible rfl
  try simp only [Act.put, List.setIfInBounds_toArray, List.set_cons_zero, List.set_cons_succ]
  refine wpAnyH_done (by kernel_rfl) ?_ _
  have HS4 := Lib.hid (HS1.out.keep hHeld)
  clear hHeld HR1 HBY HREC HS1
  clear hb1 hb2
  refine genS (RvS w LK B bs) HS4.out ?_
  clear HS4
  intro W4 s4
  have HS4 := Lib.hid s4
  clear s4
  go_wp2_with fail
  refine (when_t 26 _).mono ?_
  rintro e w5 ⟨rfl, rfl⟩
  have nilP : ∀ W, Rd W none (pksC []) := fun W j v hv => by simp [pksC] at hv
  have nilS : ∀ W, Rd W none (spanC []) := fun W j v hv => by simp [spanC] at hv
  go_wp2_with fail
  refine (packets_any none 0 0 [] _ (nilP _) (fun _ h => by cases h) rfl (by simp)).mono ?_
  rintro e w7 ⟨v7, rfl, ho, hb7⟩
  obtain ⟨CA, cc, rfl, hC⟩ := owned_slice ho
  have HC := Lib.hid hC
  have HS7 := Lib.hid (HS4.out.keep hb7)
  clear ho hC hb7 HS4
  go_wp2_with fail
  refine (samePackets_any CA none 0 0 cc 0 [] _ HC.out (nilP _) (fun _ h => by cases h) (fun _ h => by cases h) rfl rfl (by simp)).mono ?_
  rintro e w8 ⟨rfl, hb8⟩
  have HS8 := Lib.hid (HS7.out.keep hb8)
  clear hb8 HS7 HC
  go_wp2_with fail
  refine (sameSpans_any none none 0 0 0 0 [] [] _ (nilS _) (nilS _) rfl rfl (by simp)).mono ?_
  rintro e w9 ⟨rfl, q, rfl⟩
  rw [sameSp_refl]
  have HS9 := Lib.hid (HS8.out.keep (below_drewN (Below.refl _ _) q))
  clear HS8
  go_wp2_with fail
  refine (haw _ HS9.out.2.2.1).mono ?_
  rintro e w10 ⟨rfl, hb10⟩
  have HS10 := Lib.hid (HS9.out.keep hb10)
  clear hb10 HS9
  go_wp2
  go_ret
  exact ⟨rfl, HS10.out.2.2.2⟩

theorem recordReceives_ok (haw : AwakeOk) (k0 k1 k2 k3 k4 k5 k6 k7 : Int) (B : Option Addr) (d : Nat) (bs : List UInt8) (w : World) (hB : Rd w B (byts bs)) (hdb : bs.length ≤ d) (hcb : B = none → d = 0) (hmb : bs.length ≤ 9223372036854775807) (hkeys : ∀ j (h : j < 8), isByte ([k0, k1, k2, k3, k4, k5, k6, k7][j])) (haW : Aw w) :
    Calls Tryz.prog 4 #[.agg (u8s [k0, k1, k2, k3, k4, k5, k6, k7]).toArray, .slice B bs.length d] w fun e w' => e = .returned (.bool true) ∧ Below w.heap.size w w' := by
  by_cases h3 : bs.length ≤ 300
  · obtain ⟨PL, a1, a2, a3, a4, a5, a6⟩ := recvGo_pks [k0, k1, k2, k3, k4, k5, k6, k7] bs bs.length 0 [] [] [] rfl rfl (fun _ h => by cases h) (fun _ h => by cases h)
    refine receives_good haw (u8s [k0, k1, k2, k3, k4, k5, k6, k7]) B d bs w haW rfl hB hdb hcb hmb PL (recvL [k0, k1, k2, k3, k4, k5, k6, k7] bs).2 a3 a4 (by simp at a5; omega) (by unfold recvL; simp at a6; omega) ?_ ?_ h3
    · intro W A c hc hr
      refine (received_ok k0 k1 k2 k3 k4 k5 k6 k7 A bs.length c bs W hr rfl hc (by omega) hkeys).mono ?_
      rintro e w' ⟨v, u, rfl, h1, h2, hb⟩
      unfold recvL at h1
      rw [a1, a2] at h1
      obtain ⟨PA, pc, rfl, hP⟩ := owned_slice h1
      obtain ⟨SA, sc, rfl, hS⟩ := owned_slice h2
      exact ⟨PA, pc, SA, sc, rfl, hP, hS, hb⟩
    · intro W A c hc hr
      refine (receivedR_any k0 k1 k2 k3 k4 k5 k6 k7 A bs.length c bs W hr rfl hc (by omega) hkeys).mono ?_
      rintro e w' ⟨v, u, rfl, h1, h2, hb⟩
      unfold recvL at h1
      rw [a1, a2] at h1
      obtain ⟨PA, pc, rfl, hP⟩ := owned_slice h1
      obtain ⟨SA, sc, rfl, hS⟩ := owned_slice h2
      exact ⟨PA, pc, SA, sc, rfl, hP, hS, hb⟩
  · by_cases h4 : bs.length = 29697
    · refine receives_long haw (u8s [k0, k1, k2, k3, k4, k5, k6, k7]) B d bs w haW rfl hB hdb hcb hmb ?_ h4
      intro W A c hc hr
      exact received_bad k0 k1 k2 k3 k4 k5 k6 k7 A bs.length c bs W rfl (by omega) hmb
    · exact receives_far haw (u8s [k0, k1, k2, k3, k4, k5, k6, k7]) B d bs w haW rfl hB hdb hcb hmb (by omega) h4
end Go.Proofs.YtipligklkkiejaaGreatDoor
