import Derived.Test.YtgbkblbfgknheaaGreatDoorM43
import Derived.Test.YtgbkblbfgknheaaGreatDoorM38
namespace Go.Proofs.YtgbkblbfgknheaaGreatDoor
set_option linter.all false
open Go.RowKit Go.Fl
def psOk (ws : List ByteArray) : Bool := decide (ws.length = 7) && ((headW ws).toList == wSig.toList) && oksI 6 ws.tail
def psS (ws : List ByteArray) : Sg := if psOk ws = true then sgW ws.tail else ⟨0, 0, 0, 0, 0, 0⟩
theorem intOk_nil : intOk (headW []).data.toList = false := by rfl
theorem oksI_long {ws : List ByteArray} (h : oksI 6 ws = true) : 6 ≤ ws.length := by
 by_cases hl : 6 ≤ ws.length
 · exact hl
 · exfalso
   unfold oksI at h
   rw [List.all_eq_true] at h
   have h5 := h 5 (by simp)
   rw [List.drop_of_length_le (by omega)] at h5
   rw [intOk_nil] at h5
   cases h5
theorem psOk_eq (ws : List ByteArray) : (okW ws && (ws.tail.drop 6).isEmpty) = psOk ws := by
 unfold okW psOk
 cases ho : oksI 6 ws.tail with
 | false => simp
 | true =>
   have h1 := oksI_long ho
   have h2 : ws.length = ws.tail.length + 1 := by
    cases ws with
    | nil => exact absurd h1 (by simp)
    | cons x l => rfl
   have e : (ws.tail.drop 6).isEmpty = decide (ws.length = 7) := by
    cases hd : ws.tail.drop 6 with
    | nil =>
      have := congrArg List.length hd
      rw [List.length_drop, List.length_nil] at this
      simp; omega
    | cons x l =>
      have := congrArg List.length hd
      rw [List.length_drop, List.length_cons] at this
      simp; omega
   rw [e, Bool.true_and, Bool.and_true, Bool.and_comm]
theorem step_sig {p : List UInt8} (hp : (10 : UInt8) ∉ p) (i : Nat) (S : List Sg) (r : List ByteArray) :
 linesG eaS i S (lb (p ++ [10]) :: r) = if psOk ((cutG 32 0 p).map lb) = true then linesG eaS (i + 1) (S ++ [psS ((cutG 32 0 p).map lb)]) r else (i, false, (stepG eaS i S (lb (p ++ [10]))).2) := by
 obtain ⟨h1, h2⟩ := piece_words hp
 rw [linesG_cons]
 have e := stepG_is (st := eaS) (i := i) (S := S) h1
 rw [h2] at e
 have e1 : (stepG eaS i S (lb (p ++ [10]))).1 = psOk ((cutG 32 0 p).map lb) := by rw [e]; exact psOk_eq _
 rw [e1]
 by_cases h : psOk ((cutG 32 0 p).map lb) = true
 · rw [if_pos h, if_pos h]
   have e2 : (stepG eaS i S (lb (p ++ [10]))).2 = S ++ [psS ((cutG 32 0 p).map lb)] := by
    rw [e]; unfold psS; rw [if_pos h]; rfl
   rw [e2]
 · rw [if_neg h, if_neg h]
theorem last_sig {a : List UInt8} (ha : (10 : UInt8) ∉ a) (i : Nat) (S : List Sg) : linesG eaS i S (if a = [] then [] else [lb a]) = (i, decide (a = []), S) := by
 by_cases h : a = []
 · rw [if_pos h, decide_eq_true h]; rfl
 · rw [if_neg h, decide_eq_false h]
   have hend : endedL (lb a) = false := by
    cases hx : endedL (lb a) with
    | false => rfl
    | true =>
      exfalso
      have h5 := ended_is hx
      rw [bl_lb] at h5
      exact ha (by rw [h5]; simp)
   rw [linesG_cons, stepG_not hend, if_neg (by simp)]
theorem psRet {ws : List ByteArray} {b : Bool} {a1 a2 a3 a4 a5 a6 : Int} (h1 : psOk ws = b) (h2 : psS ws = ⟨a1, a2, a3, a4, a5, a6⟩) : Ending.returned (.tuple #[.agg #[.int .i64 a1, .int .i64 a2, .int .i64 a3, .int .i64 a4, .int .i64 a5, .int .i64 a6], .bool b]) = .returned (.tuple #[.agg #[.int .i64 (psS ws).a, .int .i64 (psS ws).b, .int .i64 (psS ws).c, .int .i64 (psS ws).d, .int .i64 (psS ws).x, .int .i64 (psS ws).y], .bool (psOk ws)]) := by rw [h1, h2]
theorem seven {ws : List ByteArray} (h : ws.length = 7) : ∃ w0 w1 w2 w3 w4 w5 w6, ws = [w0, w1, w2, w3, w4, w5, w6] := by
 match ws, h with
 | [w0, w1, w2, w3, w4, w5, w6], _ => exact ⟨_, _, _, _, _, _, _, rfl⟩
set_option maxRecDepth 100000 in
set_option maxHeartbeats 4000000 in
theorem parseSignal_any (s : ByteArray) (w : World) (ws : List ByteArray) (hws : ws = (cutG 32 0 (bl s)).map lb) (hs : s.size ≤ 100000) :
 Calls Tryz.prog 61 #[.string s] w fun e w' => e = .returned (.tuple #[.agg #[.int .i64 (psS ws).a, .int .i64 (psS ws).b, .int .i64 (psS ws).c, .int .i64 (psS ws).d, .int .i64 (psS ws).x, .int .i64 (psS ws).y], .bool (psOk ws)]) ∧ Below w.heap.size w w' := by
 have hSP : Hid (∀ W, Calls Tryz.prog 24 #[.string s, .int .u8 32] W fun e w' => ∃ A k, e = .returned (.slice A ws.length k) ∧ Rd w' A (strs ws) ∧ Below W.heap.size W w') := fun W => by
  have h := splitR_full s 32 W hs
  rw [← hws] at h
  rw [hws, List.length_map]
  rw [hws] at h
  exact h
 have hwl : ws.length ≤ 1000000 := by
  have h1 := cut_count 32 (bl s)
  have h2 : (bl s).count 32 ≤ (bl s).length := List.count_le_length
  rw [bl_len] at h2
  rw [hws, List.length_map, h1]
  omega
 clear hws
 go_enter Tryz.func61, Tryz.ntmps61
 go_upto_region 1 with fail
 refine genT (fun V => Row V (w.heap.size) 42 [.int .i64 0, .int .i64 0, .int .i64 0, .int .i64 0, .int .i64 0, .int .i64 0] ∧ Below w.heap.size w V) ⟨(rowAt _ _ (by first | rfl | simp only [World.size_alloc])), ((Below.refl _ _).alloc (by first | exact Nat.le_refl _ | (simp only [World.size_alloc]; omega)) _)⟩ ?_
 intro W1 s1
 have HS1 := Lib.hid s1
 clear s1
 go_upto_region 2 with (go_at_call 24; refine (hSP.out _).mono ?_; rintro e w2 ⟨A, k, rfl, hA, hb2⟩; have HS2 : Hid (Row w2 w.heap.size 42 [.int .i64 0, .int .i64 0, .int .i64 0, .int .i64 0, .int .i64 0, .int .i64 0] ∧ Below w.heap.size w w2) := ⟨HS1.out.1.old hb2, HS1.out.2.trans (hb2.mono HS1.out.2.size)⟩; have HA := Lib.hid hA; clear hb2 hA)
 clear HS1 hSP
 by_cases h7 : ws.length = 7
 · obtain ⟨x0, x1, x2, x3, x4, x5, x6, rfl⟩ := seven h7
   clear h7 hwl
   obtain ⟨b, off, hAe, c0⟩ := HA.out.str (j := 0) (by simp)
   subst hAe
   simp only [List.getElem_cons_zero, Nat.add_zero] at c0
   have HC : Hid (∀ V, Below w2.heap.size w2 V → V.cell? ⟨b, off + 1, none⟩ = some (.string x1) ∧ V.cell? ⟨b, off + 2, none⟩ = some (.string x2) ∧ V.cell? ⟨b, off + 3, none⟩ = some (.string x3) ∧ V.cell? ⟨b, off + 4, none⟩ = some (.string x4) ∧ V.cell? ⟨b, off + 5, none⟩ = some (.string x5) ∧ V.cell? ⟨b, off + 6, none⟩ = some (.string x6)) := fun V hV => by
    obtain ⟨b', o', e, h1⟩ := (HA.out.below hV).str (j := 1) (by simp)
    cases e
    obtain ⟨b', o', e, h2⟩ := (HA.out.below hV).str (j := 2) (by simp)
    cases e
    obtain ⟨b', o', e, h3⟩ := (HA.out.below hV).str (j := 3) (by simp)
    cases e
    obtain ⟨b', o', e, h4⟩ := (HA.out.below hV).str (j := 4) (by simp)
    cases e
    obtain ⟨b', o', e, h5⟩ := (HA.out.below hV).str (j := 5) (by simp)
    cases e
    obtain ⟨b', o', e, h6⟩ := (HA.out.below hV).str (j := 6) (by simp)
    cases e
    exact ⟨h1, h2, h3, h4, h5, h6⟩
   have hPO : psOk [x0, x1, x2, x3, x4, x5, x6] = ((x0.toList == wSig.toList) && oksI 6 [x1, x2, x3, x4, x5, x6]) := rfl
   by_cases hw : (x0.toList == [115, 105, 103, 110, 97, 108]) = true
   · have hw2 : (x0.toList != [115, 105, 103, 110, 97, 108]) = false := by rw [bne, hw]; rfl
     have hPO2 : psOk [x0, x1, x2, x3, x4, x5, x6] = oksI 6 [x1, x2, x3, x4, x5, x6] := by
      rw [hPO, show wSig.toList = [115, 105, 103, 110, 97, 108] by decide +kernel, hw]; rfl
     have HPO := Lib.hid hPO2
     clear hPO hPO2
     go_upto_region 5 with fail
     have HB5 : Hid (Below w2.heap.size w2 (w2.alloc (.cells #[.int .i64 0, .int .i64 0, .int .i64 0, .int .i64 0, .int .i64 0, .int .i64 0] 208))) := (Below.refl _ _).alloc (Nat.le_refl _) _
     have H5 : Hid (Row (w2.alloc (.cells #[.int .i64 0, .int .i64 0, .int .i64 0, .int .i64 0, .int .i64 0, .int .i64 0] 208)) w.heap.size 42 [.int .i64 0, .int .i64 0, .int .i64 0, .int .i64 0, .int .i64 0, .int .i64 0] ∧ Row (w2.alloc (.cells #[.int .i64 0, .int .i64 0, .int .i64 0, .int .i64 0, .int .i64 0, .int .i64 0] 208)) w2.heap.size 208 [.int .i64 0, .int .i64 0, .int .i64 0, .int .i64 0, .int .i64 0, .int .i64 0] ∧ Below w.heap.size w (w2.alloc (.cells #[.int .i64 0, .int .i64 0, .int .i64 0, .int .i64 0, .int .i64 0, .int .i64 0] 208)) ∧ Below w2.heap.size w2 (w2.alloc (.cells #[.int .i64 0, .int .i64 0, .int .i64 0, .int .i64 0, .int .i64 0, .int .i64 0] 208))) := ⟨HS2.out.1.old HB5.out, Row.new w2 208 [.int .i64 0, .int .i64 0, .int .i64 0, .int .i64 0, .int .i64 0, .int .i64 0], HS2.out.2.trans (HB5.out.mono HS2.out.2.size), HB5.out⟩
     have hgz : w.heap.size < w2.heap.size := (Array.getElem?_eq_some_iff.1 HS2.out.1).1
     clear HB5 HS2
     refine genT (fun V => Row V w.heap.size 42 [.int .i64 0, .int .i64 0, .int .i64 0, .int .i64 0, .int .i64 0, .int .i64 0] ∧ Row V w2.heap.size 208 [.int .i64 0, .int .i64 0, .int .i64 0, .int .i64 0, .int .i64 0, .int .i64 0] ∧ Below w.heap.size w V ∧ Below w2.heap.size w2 V) H5.out ?_
     clear H5
     intro W5 s5
     have HR0 := Lib.hid s5
     clear s5 c0
     go_wp2_with fail
     refine wp_loop_rounds 7 ?_
     rw [rounds_succ]
     have d0 := (HC.out _ HR0.out.2.2.2).1
     go_wp2_with fail
     refine (signedR_all x1 _).mono ?_
     rintro e W10 ⟨rfl, hbW10⟩
     have HRW10 : Hid (Row W10 w.heap.size 42 [.int .i64 0, .int .i64 0, .int .i64 0, .int .i64 0, .int .i64 0, .int .i64 0] ∧ Row W10 w2.heap.size 208 [.int .i64 0, .int .i64 0, .int .i64 0, .int .i64 0, .int .i64 0, .int .i64 0] ∧ Below w.heap.size w W10 ∧ Below w2.heap.size w2 W10) := ⟨HR0.out.1.old hbW10, HR0.out.2.1.old hbW10, HR0.out.2.2.1.trans (hbW10.mono HR0.out.2.2.1.size), HR0.out.2.2.2.trans (hbW10.mono HR0.out.2.2.2.size)⟩
     unfold sgnE
     clear d0 hbW10 HR0
     obtain ⟨v0, hv0⟩ : ∃ v, v = intV (bl x1) := ⟨_, rfl⟩
     rw [← hv0]
     have HV0 := Lib.hid hv0
     clear hv0
     cases hk0 : intOk (bl x1) with
     | false =>
       have HPF : Hid (psOk [x0, x1, x2, x3, x4, x5, x6] = false) := by
        unfold Hid
        rw [HPO.out]; unfold oksI; rw [List.all_eq_false]
        exact ⟨0, by simp, by rw [Bool.not_eq_true]; exact hk0⟩
       have HPZ : Hid (psS [x0, x1, x2, x3, x4, x5, x6] = ⟨0, 0, 0, 0, 0, 0⟩) := by unfold Hid psS; rw [HPF.out]; rfl
       clear hk0 HPO
       go_wp2_with (refine wpList_store_row rfl 42 _ _ rfl (w.heap.size) #[.int .i64 0, .int .i64 0, .int .i64 0, .int .i64 0, .int .i64 0, .int .i64 0] rfl rfl 42 _ HRW10.out.1 ?_ ?_ ?_ ?_; (kernel_rfl); (rfl); (simp [Value.oneCell']))
       refine bodyPost_ret (results_rt rfl _ _ (w.heap.size) 42 #[.int .i64 0, .int .i64 0, .int .i64 0, .int .i64 0, .int .i64 0, .int .i64 0] (0, 0) _ rfl (HRW10.out.1.setRow [.int .i64 0, .int .i64 0, .int .i64 0, .int .i64 0, .int .i64 0, .int .i64 0]) Tryz.underlying42 rfl (by kernel_rfl)) rfl ⟨by exact psRet HPF.out HPZ.out, Below.setRow HRW10.out.2.2.1 (Nat.le_refl _) _⟩
     | true =>
       have HK0 := Lib.hid hk0
       have z0 := HRW10.out.2.1.cell 0; have f0 := HRW10.out.2.1.free 0
       simp only [List.getElem?_cons_succ, List.getElem?_cons_zero] at z0
       clear hk0
       go_wp2_with fail
       rw [HV0.out]
       refine genT (fun V => Row V w.heap.size 42 [.int .i64 0, .int .i64 0, .int .i64 0, .int .i64 0, .int .i64 0, .int .i64 0] ∧ Row V w2.heap.size 208 [.int .i64 (intV (bl x1)), .int .i64 0, .int .i64 0, .int .i64 0, .int .i64 0, .int .i64 0] ∧ Below w.heap.size w V ∧ Below w2.heap.size w2 V) ⟨HRW10.out.1.far (by show w.heap.size ≠ w2.heap.size; omega) _, HRW10.out.2.1.set 0 _, HRW10.out.2.2.1.setCell (Nat.le_of_lt hgz) _, HRW10.out.2.2.2.setCell (Nat.le_refl _) _⟩ ?_
       clear HRW10 z0 f0 HV0 v0
       intro X0 sX0
       have HX0 := Lib.hid sX0
       clear sX0
       rw [rounds_succ]
       have d1 := (HC.out _ HX0.out.2.2.2).2.1
       go_wp2_with fail
       refine (signedR_all x2 _).mono ?_
       rintro e W11 ⟨rfl, hbW11⟩
       have HRW11 : Hid (Row W11 w.heap.size 42 [.int .i64 0, .int .i64 0, .int .i64 0, .int .i64 0, .int .i64 0, .int .i64 0] ∧ Row W11 w2.heap.size 208 [.int .i64 (intV (bl x1)), .int .i64 0, .int .i64 0, .int .i64 0, .int .i64 0, .int .i64 0] ∧ Below w.heap.size w W11 ∧ Below w2.heap.size w2 W11) := ⟨HX0.out.1.old hbW11, HX0.out.2.1.old hbW11, HX0.out.2.2.1.trans (hbW11.mono HX0.out.2.2.1.size), HX0.out.2.2.2.trans (hbW11.mono HX0.out.2.2.2.size)⟩
       unfold sgnE
       clear d1 hbW11 HX0
       obtain ⟨v1, hv1⟩ : ∃ v, v = intV (bl x2) := ⟨_, rfl⟩
       rw [← hv1]
       have HV1 := Lib.hid hv1
       clear hv1
       cases hk1 : intOk (bl x2) with
       | false =>
         have HPF : Hid (psOk [x0, x1, x2, x3, x4, x5, x6] = false) := by
          unfold Hid
          rw [HPO.out]; unfold oksI; rw [List.all_eq_false]
          exact ⟨1, by simp, by rw [Bool.not_eq_true]; exact hk1⟩
         have HPZ : Hid (psS [x0, x1, x2, x3, x4, x5, x6] = ⟨0, 0, 0, 0, 0, 0⟩) := by unfold Hid psS; rw [HPF.out]; rfl
         clear hk1 HPO
         go_wp2_with (refine wpList_store_row rfl 42 _ _ rfl (w.heap.size) #[.int .i64 0, .int .i64 0, .int .i64 0, .int .i64 0, .int .i64 0, .int .i64 0] rfl rfl 42 _ HRW11.out.1 ?_ ?_ ?_ ?_; (kernel_rfl); (rfl); (simp [Value.oneCell']))
         refine bodyPost_ret (results_rt rfl _ _ (w.heap.size) 42 #[.int .i64 0, .int .i64 0, .int .i64 0, .int .i64 0, .int .i64 0, .int .i64 0] (0, 0) _ rfl (HRW11.out.1.setRow [.int .i64 0, .int .i64 0, .int .i64 0, .int .i64 0, .int .i64 0, .int .i64 0]) Tryz.underlying42 rfl (by kernel_rfl)) rfl ⟨by exact psRet HPF.out HPZ.out, Below.setRow HRW11.out.2.2.1 (Nat.le_refl _) _⟩
       | true =>
         have HK1 := Lib.hid hk1
         have z1 := HRW11.out.2.1.cell 1; have f1 := HRW11.out.2.1.free 1
         simp only [List.getElem?_cons_succ, List.getElem?_cons_zero] at z1
         clear hk1
         go_wp2_with fail
         rw [HV1.out]
         refine genT (fun V => Row V w.heap.size 42 [.int .i64 0, .int .i64 0, .int .i64 0, .int .i64 0, .int .i64 0, .int .i64 0] ∧ Row V w2.heap.size 208 [.int .i64 (intV (bl x1)), .int .i64 (intV (bl x2)), .int .i64 0, .int .i64 0, .int .i64 0, .int .i64 0] ∧ Below w.heap.size w V ∧ Below w2.heap.size w2 V) ⟨HRW11.out.1.far (by show w.heap.size ≠ w2.heap.size; omega) _, HRW11.out.2.1.set 1 _, HRW11.out.2.2.1.setCell (Nat.le_of_lt hgz) _, HRW11.out.2.2.2.setCell (Nat.le_refl _) _⟩ ?_
         clear HRW11 z1 f1 HV1 v1
         intro X1 sX1
         have HX1 := Lib.hid sX1
         clear sX1
         rw [rounds_succ]
         have d2 := (HC.out _ HX1.out.2.2.2).2.2.1
         go_wp2_with fail
         refine (signedR_all x3 _).mono ?_
         rintro e W12 ⟨rfl, hbW12⟩
         have HRW12 : Hid (Row W12 w.heap.size 42 [.int .i64 0, .int .i64 0, .int .i64 0, .int .i64 0, .int .i64 0, .int .i64 0] ∧ Row W12 w2.heap.size 208 [.int .i64 (intV (bl x1)), .int .i64 (intV (bl x2)), .int .i64 0, .int .i64 0, .int .i64 0, .int .i64 0] ∧ Below w.heap.size w W12 ∧ Below w2.heap.size w2 W12) := ⟨HX1.out.1.old hbW12, HX1.out.2.1.old hbW12, HX1.out.2.2.1.trans (hbW12.mono HX1.out.2.2.1.size), HX1.out.2.2.2.trans (hbW12.mono HX1.out.2.2.2.size)⟩
         unfold sgnE
         clear d2 hbW12 HX1
         obtain ⟨v2, hv2⟩ : ∃ v, v = intV (bl x3) := ⟨_, rfl⟩
         rw [← hv2]
         have HV2 := Lib.hid hv2
         clear hv2
         cases hk2 : intOk (bl x3) with
         | false =>
           have HPF : Hid (psOk [x0, x1, x2, x3, x4, x5, x6] = false) := by
            unfold Hid
            rw [HPO.out]; unfold oksI; rw [List.all_eq_false]
            exact ⟨2, by simp, by rw [Bool.not_eq_true]; exact hk2⟩
           have HPZ : Hid (psS [x0, x1, x2, x3, x4, x5, x6] = ⟨0, 0, 0, 0, 0, 0⟩) := by unfold Hid psS; rw [HPF.out]; rfl
           clear hk2 HPO
           go_wp2_with (refine wpList_store_row rfl 42 _ _ rfl (w.heap.size) #[.int .i64 0, .int .i64 0, .int .i64 0, .int .i64 0, .int .i64 0, .int .i64 0] rfl rfl 42 _ HRW12.out.1 ?_ ?_ ?_ ?_; (kernel_rfl); (rfl); (simp [Value.oneCell']))
           refine bodyPost_ret (results_rt rfl _ _ (w.heap.size) 42 #[.int .i64 0, .int .i64 0, .int .i64 0, .int .i64 0, .int .i64 0, .int .i64 0] (0, 0) _ rfl (HRW12.out.1.setRow [.int .i64 0, .int .i64 0, .int .i64 0, .int .i64 0, .int .i64 0, .int .i64 0]) Tryz.underlying42 rfl (by kernel_rfl)) rfl ⟨by exact psRet HPF.out HPZ.out, Below.setRow HRW12.out.2.2.1 (Nat.le_refl _) _⟩
         | true =>
           have HK2 := Lib.hid hk2
           have z2 := HRW12.out.2.1.cell 2; have f2 := HRW12.out.2.1.free 2
           simp only [List.getElem?_cons_succ, List.getElem?_cons_zero] at z2
           clear hk2
           go_wp2_with fail
           rw [HV2.out]
           refine genT (fun V => Row V w.heap.size 42 [.int .i64 0, .int .i64 0, .int .i64 0, .int .i64 0, .int .i64 0, .int .i64 0] ∧ Row V w2.heap.size 208 [.int .i64 (intV (bl x1)), .int .i64 (intV (bl x2)), .int .i64 (intV (bl x3)), .int .i64 0, .int .i64 0, .int .i64 0] ∧ Below w.heap.size w V ∧ Below w2.heap.size w2 V) ⟨HRW12.out.1.far (by show w.heap.size ≠ w2.heap.size; omega) _, HRW12.out.2.1.set 2 _, HRW12.out.2.2.1.setCell (Nat.le_of_lt hgz) _, HRW12.out.2.2.2.setCell (Nat.le_refl _) _⟩ ?_
           clear HRW12 z2 f2 HV2 v2
           intro X2 sX2
           have HX2 := Lib.hid sX2
           clear sX2
           rw [rounds_succ]
           have d3 := (HC.out _ HX2.out.2.2.2).2.2.2.1
           go_wp2_with fail
           refine (signedR_all x4 _).mono ?_
           rintro e W13 ⟨rfl, hbW13⟩
           have HRW13 : Hid (Row W13 w.heap.size 42 [.int .i64 0, .int .i64 0, .int .i64 0, .int .i64 0, .int .i64 0, .int .i64 0] ∧ Row W13 w2.heap.size 208 [.int .i64 (intV (bl x1)), .int .i64 (intV (bl x2)), .int .i64 (intV (bl x3)), .int .i64 0, .int .i64 0, .int .i64 0] ∧ Below w.heap.size w W13 ∧ Below w2.heap.size w2 W13) := ⟨HX2.out.1.old hbW13, HX2.out.2.1.old hbW13, HX2.out.2.2.1.trans (hbW13.mono HX2.out.2.2.1.size), HX2.out.2.2.2.trans (hbW13.mono HX2.out.2.2.2.size)⟩
           unfold sgnE
           clear d3 hbW13 HX2
           obtain ⟨v3, hv3⟩ : ∃ v, v = intV (bl x4) := ⟨_, rfl⟩
           rw [← hv3]
           have HV3 := Lib.hid hv3
           clear hv3
           cases hk3 : intOk (bl x4) with
           | false =>
             have HPF : Hid (psOk [x0, x1, x2, x3, x4, x5, x6] = false) := by
              unfold Hid
              rw [HPO.out]; unfold oksI; rw [List.all_eq_false]
              exact ⟨3, by simp, by rw [Bool.not_eq_true]; exact hk3⟩
             have HPZ : Hid (psS [x0, x1, x2, x3, x4, x5, x6] = ⟨0, 0, 0, 0, 0, 0⟩) := by unfold Hid psS; rw [HPF.out]; rfl
             clear hk3 HPO
             go_wp2_with (refine wpList_store_row rfl 42 _ _ rfl (w.heap.size) #[.int .i64 0, .int .i64 0, .int .i64 0, .int .i64 0, .int .i64 0, .int .i64 0] rfl rfl 42 _ HRW13.out.1 ?_ ?_ ?_ ?_; (kernel_rfl); (rfl); (simp [Value.oneCell']))
             refine bodyPost_ret (results_rt rfl _ _ (w.heap.size) 42 #[.int .i64 0, .int .i64 0, .int .i64 0, .int .i64 0, .int .i64 0, .int .i64 0] (0, 0) _ rfl (HRW13.out.1.setRow [.int .i64 0, .int .i64 0, .int .i64 0, .int .i64 0, .int .i64 0, .int .i64 0]) Tryz.underlying42 rfl (by kernel_rfl)) rfl ⟨by exact psRet HPF.out HPZ.out, Below.setRow HRW13.out.2.2.1 (Nat.le_refl _) _⟩
           | true =>
             have HK3 := Lib.hid hk3
             have z3 := HRW13.out.2.1.cell 3; have f3 := HRW13.out.2.1.free 3
             simp only [List.getElem?_cons_succ, List.getElem?_cons_zero] at z3
             clear hk3
             go_wp2_with fail
             rw [HV3.out]
             refine genT (fun V => Row V w.heap.size 42 [.int .i64 0, .int .i64 0, .int .i64 0, .int .i64 0, .int .i64 0, .int .i64 0] ∧ Row V w2.heap.size 208 [.int .i64 (intV (bl x1)), .int .i64 (intV (bl x2)), .int .i64 (intV (bl x3)), .int .i64 (intV (bl x4)), .int .i64 0, .int .i64 0] ∧ Below w.heap.size w V ∧ Below w2.heap.size w2 V) ⟨HRW13.out.1.far (by show w.heap.size ≠ w2.heap.size; omega) _, HRW13.out.2.1.set 3 _, HRW13.out.2.2.1.setCell (Nat.le_of_lt hgz) _, HRW13.out.2.2.2.setCell (Nat.le_refl _) _⟩ ?_
             clear HRW13 z3 f3 HV3 v3
             intro X3 sX3
             have HX3 := Lib.hid sX3
             clear sX3
             rw [rounds_succ]
             have d4 := (HC.out _ HX3.out.2.2.2).2.2.2.2.1
             go_wp2_with fail
             refine (signedR_all x5 _).mono ?_
             rintro e W14 ⟨rfl, hbW14⟩
             have HRW14 : Hid (Row W14 w.heap.size 42 [.int .i64 0, .int .i64 0, .int .i64 0, .int .i64 0, .int .i64 0, .int .i64 0] ∧ Row W14 w2.heap.size 208 [.int .i64 (intV (bl x1)), .int .i64 (intV (bl x2)), .int .i64 (intV (bl x3)), .int .i64 (intV (bl x4)), .int .i64 0, .int .i64 0] ∧ Below w.heap.size w W14 ∧ Below w2.heap.size w2 W14) := ⟨HX3.out.1.old hbW14, HX3.out.2.1.old hbW14, HX3.out.2.2.1.trans (hbW14.mono HX3.out.2.2.1.size), HX3.out.2.2.2.trans (hbW14.mono HX3.out.2.2.2.size)⟩
             unfold sgnE
             clear d4 hbW14 HX3
             obtain ⟨v4, hv4⟩ : ∃ v, v = intV (bl x5) := ⟨_, rfl⟩
             rw [← hv4]
             have HV4 := Lib.hid hv4
             clear hv4
             cases hk4 : intOk (bl x5) with
             | false =>
               have HPF : Hid (psOk [x0, x1, x2, x3, x4, x5, x6] = false) := by
                unfold Hid
                rw [HPO.out]; unfold oksI; rw [List.all_eq_false]
                exact ⟨4, by simp, by rw [Bool.not_eq_true]; exact hk4⟩
               have HPZ : Hid (psS [x0, x1, x2, x3, x4, x5, x6] = ⟨0, 0, 0, 0, 0, 0⟩) := by unfold Hid psS; rw [HPF.out]; rfl
               clear hk4 HPO
               go_wp2_with (refine wpList_store_row rfl 42 _ _ rfl (w.heap.size) #[.int .i64 0, .int .i64 0, .int .i64 0, .int .i64 0, .int .i64 0, .int .i64 0] rfl rfl 42 _ HRW14.out.1 ?_ ?_ ?_ ?_; (kernel_rfl); (rfl); (simp [Value.oneCell']))
               refine bodyPost_ret (results_rt rfl _ _ (w.heap.size) 42 #[.int .i64 0, .int .i64 0, .int .i64 0, .int .i64 0, .int .i64 0, .int .i64 0] (0, 0) _ rfl (HRW14.out.1.setRow [.int .i64 0, .int .i64 0, .int .i64 0, .int .i64 0, .int .i64 0, .int .i64 0]) Tryz.underlying42 rfl (by kernel_rfl)) rfl ⟨by exact psRet HPF.out HPZ.out, Below.setRow HRW14.out.2.2.1 (Nat.le_refl _) _⟩
             | true =>
               have HK4 := Lib.hid hk4
               have z4 := HRW14.out.2.1.cell 4; have f4 := HRW14.out.2.1.free 4
               simp only [List.getElem?_cons_succ, List.getElem?_cons_zero] at z4
               clear hk4
               go_wp2_with fail
               rw [HV4.out]
               refine genT (fun V => Row V w.heap.size 42 [.int .i64 0, .int .i64 0, .int .i64 0, .int .i64 0, .int .i64 0, .int .i64 0] ∧ Row V w2.heap.size 208 [.int .i64 (intV (bl x1)), .int .i64 (intV (bl x2)), .int .i64 (intV (bl x3)), .int .i64 (intV (bl x4)), .int .i64 (intV (bl x5)), .int .i64 0] ∧ Below w.heap.size w V ∧ Below w2.heap.size w2 V) ⟨HRW14.out.1.far (by show w.heap.size ≠ w2.heap.size; omega) _, HRW14.out.2.1.set 4 _, HRW14.out.2.2.1.setCell (Nat.le_of_lt hgz) _, HRW14.out.2.2.2.setCell (Nat.le_refl _) _⟩ ?_
               clear HRW14 z4 f4 HV4 v4
               intro X4 sX4
               have HX4 := Lib.hid sX4
               clear sX4
               rw [rounds_succ]
               have d5 := (HC.out _ HX4.out.2.2.2).2.2.2.2.2
               go_wp2_with fail
               refine (signedR_all x6 _).mono ?_
               rintro e W15 ⟨rfl, hbW15⟩
               have HRW15 : Hid (Row W15 w.heap.size 42 [.int .i64 0, .int .i64 0, .int .i64 0, .int .i64 0, .int .i64 0, .int .i64 0] ∧ Row W15 w2.heap.size 208 [.int .i64 (intV (bl x1)), .int .i64 (intV (bl x2)), .int .i64 (intV (bl x3)), .int .i64 (intV (bl x4)), .int .i64 (intV (bl x5)), .int .i64 0] ∧ Below w.heap.size w W15 ∧ Below w2.heap.size w2 W15) := ⟨HX4.out.1.old hbW15, HX4.out.2.1.old hbW15, HX4.out.2.2.1.trans (hbW15.mono HX4.out.2.2.1.size), HX4.out.2.2.2.trans (hbW15.mono HX4.out.2.2.2.size)⟩
               unfold sgnE
               clear d5 hbW15 HX4
               obtain ⟨v5, hv5⟩ : ∃ v, v = intV (bl x6) := ⟨_, rfl⟩
               rw [← hv5]
               have HV5 := Lib.hid hv5
               clear hv5
               cases hk5 : intOk (bl x6) with
               | false =>
                 have HPF : Hid (psOk [x0, x1, x2, x3, x4, x5, x6] = false) := by
                  unfold Hid
                  rw [HPO.out]; unfold oksI; rw [List.all_eq_false]
                  exact ⟨5, by simp, by rw [Bool.not_eq_true]; exact hk5⟩
                 have HPZ : Hid (psS [x0, x1, x2, x3, x4, x5, x6] = ⟨0, 0, 0, 0, 0, 0⟩) := by unfold Hid psS; rw [HPF.out]; rfl
                 clear hk5 HPO
                 go_wp2_with (refine wpList_store_row rfl 42 _ _ rfl (w.heap.size) #[.int .i64 0, .int .i64 0, .int .i64 0, .int .i64 0, .int .i64 0, .int .i64 0] rfl rfl 42 _ HRW15.out.1 ?_ ?_ ?_ ?_; (kernel_rfl); (rfl); (simp [Value.oneCell']))
                 refine bodyPost_ret (results_rt rfl _ _ (w.heap.size) 42 #[.int .i64 0, .int .i64 0, .int .i64 0, .int .i64 0, .int .i64 0, .int .i64 0] (0, 0) _ rfl (HRW15.out.1.setRow [.int .i64 0, .int .i64 0, .int .i64 0, .int .i64 0, .int .i64 0, .int .i64 0]) Tryz.underlying42 rfl (by kernel_rfl)) rfl ⟨by exact psRet HPF.out HPZ.out, Below.setRow HRW15.out.2.2.1 (Nat.le_refl _) _⟩
               | true =>
                 have HK5 := Lib.hid hk5
                 have z5 := HRW15.out.2.1.cell 5; have f5 := HRW15.out.2.1.free 5
                 simp only [List.getElem?_cons_succ, List.getElem?_cons_zero] at z5
                 clear hk5
                 go_wp2_with fail
                 rw [HV5.out]
                 refine genT (fun V => Row V w.heap.size 42 [.int .i64 0, .int .i64 0, .int .i64 0, .int .i64 0, .int .i64 0, .int .i64 0] ∧ Row V w2.heap.size 208 [.int .i64 (intV (bl x1)), .int .i64 (intV (bl x2)), .int .i64 (intV (bl x3)), .int .i64 (intV (bl x4)), .int .i64 (intV (bl x5)), .int .i64 (intV (bl x6))] ∧ Below w.heap.size w V ∧ Below w2.heap.size w2 V) ⟨HRW15.out.1.far (by show w.heap.size ≠ w2.heap.size; omega) _, HRW15.out.2.1.set 5 _, HRW15.out.2.2.1.setCell (Nat.le_of_lt hgz) _, HRW15.out.2.2.2.setCell (Nat.le_refl _) _⟩ ?_
                 clear HRW15 z5 f5 HV5 v5
                 intro X5 sX5
                 have HX5 := Lib.hid sX5
                 clear sX5
                 rw [rounds_succ]
                 have HPT : Hid (psOk [x0, x1, x2, x3, x4, x5, x6] = true) := by
                  unfold Hid
                  rw [HPO.out]; unfold oksI; rw [List.all_eq_true]
                  intro j hj
                  have hj6 : j < 6 := by simpa using hj
                  match j, hj6 with
                  | 0, _ => exact HK0.out
                  | 1, _ => exact HK1.out
                  | 2, _ => exact HK2.out
                  | 3, _ => exact HK3.out
                  | 4, _ => exact HK4.out
                  | 5, _ => exact HK5.out
                 clear HPO HK0 HK1 HK2 HK3 HK4 HK5
                 have y0 := HX5.out.2.1.cell 0
                 have y1 := HX5.out.2.1.cell 1
                 have y2 := HX5.out.2.1.cell 2
                 have y3 := HX5.out.2.1.cell 3
                 have y4 := HX5.out.2.1.cell 4
                 have y5 := HX5.out.2.1.cell 5
                 simp only [List.getElem?_cons_succ, List.getElem?_cons_zero] at y0 y1 y2 y3 y4 y5
                 obtain ⟨r0, hr0⟩ : ∃ r, r = intV (bl x1) := ⟨_, rfl⟩
                 obtain ⟨r1, hr1⟩ : ∃ r, r = intV (bl x2) := ⟨_, rfl⟩
                 obtain ⟨r2, hr2⟩ : ∃ r, r = intV (bl x3) := ⟨_, rfl⟩
                 obtain ⟨r3, hr3⟩ : ∃ r, r = intV (bl x4) := ⟨_, rfl⟩
                 obtain ⟨r4, hr4⟩ : ∃ r, r = intV (bl x5) := ⟨_, rfl⟩
                 obtain ⟨r5, hr5⟩ : ∃ r, r = intV (bl x6) := ⟨_, rfl⟩
                 rw [← hr0] at y0; rw [← hr1] at y1; rw [← hr2] at y2; rw [← hr3] at y3; rw [← hr4] at y4; rw [← hr5] at y5
                 have HPZ : Hid (psS [x0, x1, x2, x3, x4, x5, x6] = ⟨r0, r1, r2, r3, r4, r5⟩) := by unfold Hid psS; rw [HPT.out, hr0, hr1, hr2, hr3, hr4, hr5]; rfl
                 clear hr0 hr1 hr2 hr3 hr4 hr5
                 go_wp2_with (refine wpList_store_row rfl 42 _ _ rfl (w.heap.size) #[.int .i64 r0, .int .i64 r1, .int .i64 r2, .int .i64 r3, .int .i64 r4, .int .i64 r5] rfl rfl 42 _ HX5.out.1 ?_ ?_ ?_ ?_; (kernel_rfl); (rfl); (simp [Value.oneCell']))
                 refine bodyPost_ret (results_rt rfl _ _ (w.heap.size) 42 #[.int .i64 r0, .int .i64 r1, .int .i64 r2, .int .i64 r3, .int .i64 r4, .int .i64 r5] (0, 0) _ rfl (HX5.out.1.setRow [.int .i64 r0, .int .i64 r1, .int .i64 r2, .int .i64 r3, .int .i64 r4, .int .i64 r5]) Tryz.underlying42 rfl (by kernel_rfl)) rfl ⟨by exact psRet HPT.out HPZ.out, Below.setRow HX5.out.2.2.1 (Nat.le_refl _) _⟩
   · have hw2 : (x0.toList == [115, 105, 103, 110, 97, 108]) = false := by rw [Bool.not_eq_true] at hw; exact hw
     have hw3 : (x0.toList != [115, 105, 103, 110, 97, 108]) = true := by rw [bne, hw2]; rfl
     have HPF : Hid (psOk [x0, x1, x2, x3, x4, x5, x6] = false) := by
      unfold Hid
      rw [hPO, show wSig.toList = [115, 105, 103, 110, 97, 108] by decide +kernel, hw2]; rfl
     have HPZ : Hid (psS [x0, x1, x2, x3, x4, x5, x6] = ⟨0, 0, 0, 0, 0, 0⟩) := by unfold Hid psS; rw [HPF.out]; rfl
     clear hPO hw
     go_wp2_with (refine wpList_store_row rfl 42 _ _ rfl (w.heap.size) #[.int .i64 0, .int .i64 0, .int .i64 0, .int .i64 0, .int .i64 0, .int .i64 0] rfl rfl 42 _ HS2.out.1 ?_ ?_ ?_ ?_; (kernel_rfl); (rfl); (simp [Value.oneCell']))
     refine bodyPost_ret (results_rt rfl _ _ (w.heap.size) 42 #[.int .i64 0, .int .i64 0, .int .i64 0, .int .i64 0, .int .i64 0, .int .i64 0] (0, 0) _ rfl (HS2.out.1.setRow [.int .i64 0, .int .i64 0, .int .i64 0, .int .i64 0, .int .i64 0, .int .i64 0]) Tryz.underlying42 rfl (by kernel_rfl)) rfl ⟨by exact psRet HPF.out HPZ.out, Below.setRow HS2.out.2 (Nat.le_refl _) _⟩
 · have a7 : ((ws.length : Int) != 7) = true := by rw [bne_iff_ne]; omega
   have HPF : Hid (psOk ws = false) := by unfold Hid psOk; rw [decide_eq_false h7]; rfl
   have HPZ : Hid (psS ws = ⟨0, 0, 0, 0, 0, 0⟩) := by unfold Hid psS; rw [HPF.out]; rfl
   clear h7
   go_wp2_with (refine wpList_store_row rfl 42 _ _ rfl (w.heap.size) #[.int .i64 0, .int .i64 0, .int .i64 0, .int .i64 0, .int .i64 0, .int .i64 0] rfl rfl 42 _ HS2.out.1 ?_ ?_ ?_ ?_; (kernel_rfl); (rfl); (simp [Value.oneCell']))
   refine bodyPost_ret (results_rt rfl _ _ (w.heap.size) 42 #[.int .i64 0, .int .i64 0, .int .i64 0, .int .i64 0, .int .i64 0, .int .i64 0] (0, 0) _ rfl (HS2.out.1.setRow [.int .i64 0, .int .i64 0, .int .i64 0, .int .i64 0, .int .i64 0, .int .i64 0]) Tryz.underlying42 rfl (by kernel_rfl)) rfl ⟨by exact psRet HPF.out HPZ.out, Below.setRow HS2.out.2 (Nat.le_refl _) _⟩
def SpQ (w : World) (G : Nat × Bool × List Sg) : Ending → World → Prop := fun e w' =>
 (G.2.1 = false → e = .returned (.tuple #[.slice none 0 0, .int .i64 G.1, .int .i64 25]) ∧ Below w.heap.size w w') ∧
 (G.2.1 = true → sgsE G.2.2 ≠ 0 → e = .returned (.tuple #[.slice none 0 0, .int .i64 G.1, .int .i64 (sgsE G.2.2)]) ∧ Below w.heap.size w w') ∧
 (G.2.1 = true → sgsE G.2.2 = 0 → (∃ A c, e = .returned (.tuple #[.slice A G.2.2.length c, .int .i64 0, .int .i64 0]) ∧ Rd w' A (sgC G.2.2)) ∧ Below w.heap.size w w')
theorem spQ_bad {w w' : World} {G : Nat × Bool × List Sg} {n : Nat} {S : List Sg} {e : Ending} (hG : G = (n, false, S)) (h : e = .returned (.tuple #[.slice none 0 0, .int .i64 n, .int .i64 25]) ∧ Below w.heap.size w w') : SpQ w G e w' := by
 subst hG; exact ⟨fun _ => h, fun h2 => by (cases h2), fun h2 => by (cases h2)⟩
theorem spQ_err {w w' : World} {G : Nat × Bool × List Sg} {n : Nat} {S : List Sg} {e : Ending} {k : Int} (hG : G = (n, true, S)) (hk : sgsE S = k) (h0 : k ≠ 0) (h : e = .returned (.tuple #[.slice none 0 0, .int .i64 n, .int .i64 k]) ∧ Below w.heap.size w w') : SpQ w G e w' := by
 subst hG; subst hk; exact ⟨fun h2 => by (cases h2), fun _ _ => h, fun _ h2 => absurd h2 h0⟩
theorem spQ_good {w w' : World} {G : Nat × Bool × List Sg} {n : Nat} {S : List Sg} {e : Ending} (hG : G = (n, true, S)) (hk : sgsE S = 0) (h : (∃ A c, e = .returned (.tuple #[.slice A S.length c, .int .i64 0, .int .i64 0]) ∧ Rd w' A (sgC S)) ∧ Below w.heap.size w w') : SpQ w G e w' := by
 subst hG; exact ⟨fun h2 => by (cases h2), fun _ h2 => absurd hk h2, fun _ _ => h⟩
theorem emp_l (a : List UInt8) : (lb a).toList.isEmpty = decide (a = []) := by
 rw [ByteArray.toList_eq]
 show a.isEmpty = _
 cases a <;> rfl
set_option maxRecDepth 100000 in
set_option maxHeartbeats 2000000 in
theorem parseSR_long (s : ByteArray) (w : World) (hs : 4096 < s.size) (h2 : s.size ≤ 1000000) : Calls Tryz.prog 14 #[.string s] w fun e w' => e = .returned (.tuple #[.slice none 0 0, .int .i64 0, .int .i64 26]) ∧ Below w.heap.size w w' := by
 have i1 : (4096 : Int) < (s.size : Int) := by omega
 go_enter Tryz.func14, Tryz.ntmps14
 go_wp2_with fail
 exact bodyPost_ret (results3 rfl _ _) rfl ⟨rfl, Below.refl _ _⟩
set_option maxRecDepth 100000 in
set_option maxHeartbeats 4000000 in
theorem parseSR_any (s : ByteArray) (w : World) (hs : s.size ≤ 4096) :
 Calls Tryz.prog 14 #[.string s] w fun e w' => SpQ w (linesG eaS 0 [] (linesL s)) e w' := by
 obtain ⟨G, hG⟩ : ∃ G, G = linesG eaS 0 [] (linesL s) := ⟨_, rfl⟩
 rw [← hG]
 obtain ⟨ps, a, hcut, -⟩ := cut_both 10 (bl s)
 have hno : Hid (∀ p ∈ ps, (10 : UInt8) ∉ p) := fun p hp => piece_no 10 (bl s) p (by rw [hcut]; exact List.mem_append_left _ hp)
 have hna : Hid ((10 : UInt8) ∉ a) := piece_no 10 (bl s) a (by rw [hcut]; simp)
 obtain ⟨tl, htl⟩ : ∃ tl, tl = (if a = [] then [] else [lb a]) := ⟨_, rfl⟩
 have HG := Lib.hid (by rw [hG, lines_pieces hcut, ← htl] : G = linesG eaS 0 [] ((ps.map fun p => lb (p ++ [10])) ++ tl))
 have HTL := Lib.hid htl
 have hnp : Hid (ps.length + 1 ≤ s.size + 1) := by
  have h1 := cut_count 10 (bl s)
  rw [hcut, List.length_append, List.length_singleton, ← bl_len s] at *
  have h2 : (bl s).count 10 ≤ (bl s).length := List.count_le_length
  unfold Hid
  omega
 have hpS : Hid (∀ p ∈ ps, p.length + 1 ≤ s.size) := fun p hp => by
  have h1 := linesL_small (s := s) (x := lb (p ++ [10])) (by rw [lines_pieces hcut]; exact List.mem_append_left _ (List.mem_map.2 ⟨p, hp, rfl⟩))
  have h2 : (lb (p ++ [10])).size = (p ++ [10]).length := List.size_toArray
  rw [h2, List.length_append] at h1
  exact h1
 have hln : (cutG 10 0 (bl s)).length = ps.length + 1 := by rw [hcut, List.length_append]; rfl
 have hSP : Hid (∀ W, Calls Tryz.prog 24 #[.string s, .int .u8 10] W fun e w' => ∃ A k, e = .returned (.slice A (ps.length + 1) k) ∧ Rd w' A (strs (ps.map lb ++ [lb a])) ∧ Below W.heap.size W w') := fun W => by
  have h := splitR_full s 10 W (by omega)
  rw [hln, hcut, List.map_append] at h
  exact h
 have i1 : ¬ (4096 : Int) < (s.size : Int) := by omega
 obtain ⟨N, hN⟩ : ∃ N, N = ps.length := ⟨_, rfl⟩
 rw [← hN] at hSP hnp
 have hN9 : N ≤ 4096 := by have := hnp.out; omega
 have HN := Lib.hid hN
 obtain ⟨i0, hi, hz0, hz1, hz2⟩ := info_parts infoSgR2
 clear hG hcut htl hln hnp hN
 go_enter Tryz.func14, Tryz.ntmps14
 go_wp2_with fail
 refine (hSP.out _).mono ?_
 rintro e w1 ⟨A, k, rfl, hA, hb⟩
 have HB1 := Lib.hid hb
 have HA1 := Lib.hid hA
 clear hb hA hSP
 obtain ⟨PS, hPS⟩ : ∃ PS, PS = ps.map lb ++ [lb a] := ⟨_, rfl⟩
 have HPS := Lib.hid hPS
 rw [← hPS] at HA1
 clear hPS
 have hPl : PS.length = N + 1 := by rw [HPS.out, List.length_append, List.length_map, ← HN.out]; rfl
 have hPN : PS[N]'(by omega) = lb a := by
  have h : PS[N]? = some (lb a) := by rw [HPS.out, HN.out]; simp
  exact Option.some.inj (by rw [← h, List.getElem?_eq_getElem (by omega)])
 obtain ⟨b, off, hAe, hc0⟩ := HA1.out.str (j := N) (by omega)
 subst hAe
 have HCN : Hid (∀ V, Below w1.heap.size w1 V → V.cell? ⟨b, off + N, none⟩ = some (.string (lb a))) := fun V hV => by
  obtain ⟨b', off', e, h⟩ := (HA1.out.below hV).str (j := N) (by omega)
  cases e
  rw [h, hPN]
 have HCI : Hid (∀ V (i : Nat) (hi : i < ps.length), Below w1.heap.size w1 V → V.cell? ⟨b, off + i, none⟩ = some (.string (lb ps[i]))) := fun V i hi hV => by
  obtain ⟨b', off', e, h⟩ := (HA1.out.below hV).str (j := i) (by rw [hPl, HN.out]; omega)
  cases e
  rw [h]
  have h2 : PS[i]? = some (lb ps[i]) := by rw [HPS.out, List.getElem?_append_left (by simpa using hi), List.getElem?_map, List.getElem?_eq_getElem hi]; rfl
  exact congrArg (fun x => some (Value.string x)) (Option.some.inj (by rw [← h2, List.getElem?_eq_getElem]))
 clear hc0 hPN hPl HA1 HPS
 have h1 : IntKind.i64.wrap ((N : Int) + 1 - 1) = (N : Int) := by rw [show (N : Int) + 1 - 1 = N by omega]; exact IntWalk.i64_in _ (by omega)
 have h1b : IntKind.i64.wrap (N : Int) = (N : Int) := IntWalk.i64_in _ (by omega)
 go_wp2_with fail
 go_loopg [7, 8] N (fun g s7 s8 wr => ∃ (i : Nat) (S : List Sg), i + g = N ∧ s8 = .int .i64 i ∧ Hid (S.length = i) ∧ Hid (wr.ownsRow w1.heap.size 42 6 s7 i (sgC S)) ∧ Hid (Below w1.heap.size w1 wr) ∧ Hid (G = linesG eaS i S ((ps.drop i).map (fun p => lb (p ++ [10])) ++ tl)))
 case atStart => exact ⟨0, [], by omega, rfl, rfl, World.ownsRow_nil _ _ _ _, Below.refl _ _, HG.out⟩
 case round =>
  clear HG
  obtain ⟨i, S, hi, rfl, HSL, Ho, Hb, HG⟩ := hrel
  by_cases hlt : i < N
  · have hip : i < ps.length := by have := HN.out; omega
    have c0 := HCI.out wr i hip Hb.out
    obtain ⟨p, hp⟩ : ∃ p, p = ps[i] := ⟨_, rfl⟩
    rw [← hp] at c0
    have hno1 := hno.out p (by rw [hp]; exact List.getElem_mem hip)
    have HST := Lib.hid (step_sig hno1 i S (((ps.drop (i + 1)).map fun p => lb (p ++ [10])) ++ tl))
    have HDR : Hid (((ps.drop i).map fun p => lb (p ++ [10])) ++ tl = lb (p ++ [10]) :: (((ps.drop (i + 1)).map fun p => lb (p ++ [10])) ++ tl)) := by
     unfold Hid
     rw [List.drop_eq_getElem_cons hip, ← hp]
     first | done | rfl
    obtain ⟨S9, hS9⟩ : ∃ S9, S9 = (stepG eaS i S (lb (p ++ [10]))).2 := ⟨_, rfl⟩
    rw [← hS9] at HST
    obtain ⟨ws, hws⟩ : ∃ ws, ws = (cutG 32 0 p).map lb := ⟨_, rfl⟩
    rw [← hws] at HST
    have HG2 : Hid (G = if psOk ws = true then linesG eaS (i + 1) (S ++ [psS ws]) (((ps.drop (i + 1)).map fun p => lb (p ++ [10])) ++ tl) else (i, false, S9)) := HG.out.trans (by rw [HDR.out]; exact HST.out)
    have hpz : (lb p).size ≤ 100000 := by
     have h1 := hpS.out p (by rw [hp]; exact List.getElem_mem hip)
     have h2 : (lb p).size = p.length := List.size_toArray
     omega
    have HPS : Hid (∀ W, Calls Tryz.prog 61 #[.string (lb p)] W fun e w' => e = .returned (.tuple #[.agg #[.int .i64 (psS ws).a, .int .i64 (psS ws).b, .int .i64 (psS ws).c, .int .i64 (psS ws).d, .int .i64 (psS ws).x, .int .i64 (psS ws).y], .bool (psOk ws)]) ∧ Below W.heap.size W w') := fun W => parseSignal_any (lb p) W ws (by rw [bl_lb]; exact hws) hpz
    have i2 : (i : Int) < (N : Int) := by omega
    have HLT := Lib.hid hlt; have HI := Lib.hid hi
    clear hp hno1 HST HDR HG hS9 hws hpz hip hlt hi
    obtain ⟨⟨pa, pb, pc, pd, px, py⟩, hPP⟩ : ∃ s, s = psS ws := ⟨_, rfl⟩
    obtain ⟨ok, hok⟩ : ∃ ok, ok = psOk ws := ⟨_, rfl⟩
    rw [← hPP] at HPS HG2
    rw [← hok] at HPS HG2
    dsimp only at HPS
    clear hPP hok
    go_upto_region 10 with (first
     | (go_at_call 61; refine (HPS.out _).mono ?_; rintro e w5 ⟨rfl, hb5⟩; have Hb5 := Lib.hid hb5; clear hb5)
     | (refine wpList_store_row rfl 42 _ _ rfl w5.heap.size #[.int .i64 pa, .int .i64 pb, .int .i64 pc, .int .i64 pd, .int .i64 px, .int .i64 py] rfl rfl 42 _ (Row.new w5 42 [.int .i64 0, .int .i64 0, .int .i64 0, .int .i64 0, .int .i64 0, .int .i64 0]) ?_ ?_ ?_ ?_; (kernel_rfl); (rfl); (simp [Value.oneCell'])))
    have HN5 : Hid (Below w5.heap.size w5 ((w5.alloc (.cells #[.int .i64 0, .int .i64 0, .int .i64 0, .int .i64 0, .int .i64 0, .int .i64 0] 42)).setRow w5.heap.size #[.int .i64 pa, .int .i64 pb, .int .i64 pc, .int .i64 pd, .int .i64 px, .int .i64 py])) := Below.setRow ((Below.refl _ _).alloc (Nat.le_refl _) _) (Nat.le_refl _) _
    have HW5 : Hid (Below wr.heap.size wr ((w5.alloc (.cells #[.int .i64 0, .int .i64 0, .int .i64 0, .int .i64 0, .int .i64 0, .int .i64 0] 42)).setRow w5.heap.size #[.int .i64 pa, .int .i64 pb, .int .i64 pc, .int .i64 pd, .int .i64 px, .int .i64 py])) := Hb5.out.trans (HN5.out.mono Hb5.out.size)
    refine genT (fun V => Row V w5.heap.size 42 [.int .i64 pa, .int .i64 pb, .int .i64 pc, .int .i64 pd, .int .i64 px, .int .i64 py] ∧ V.ownsRow w1.heap.size 42 6 u7 i (sgC S) ∧ Below w1.heap.size w1 V ∧ w1.heap.size ≤ V.heap.size) ⟨(Row.new w5 42 [.int .i64 0, .int .i64 0, .int .i64 0, .int .i64 0, .int .i64 0, .int .i64 0]).setRow _, own_keep Ho.out HW5.out, Hb.out.trans (HW5.out.mono Hb.out.size), (Hb.out.trans (HW5.out.mono Hb.out.size)).size⟩ ?_
    clear HN5 HW5 Hb5 Ho Hb c0 HPS
    intro W6 s6
    have HR6 := Lib.hid s6.1; have Ho6 := Lib.hid s6.2.1; have Hb6 := Lib.hid s6.2.2.1; have Hsz := Lib.hid s6.2.2.2
    clear s6
    cases ok with
    | false =>
      go_wp2_with fail
      exact bodyPost_ret (results3 rfl _ _) rfl (by exact spQ_bad (by rw [HG2.out]; rfl) ⟨rfl, HB1.out.trans (Hb6.out.mono HB1.out.size)⟩)
    | true =>
      rw [if_pos rfl] at HG2
      go_wp2_with (first
       | (refine wpList_load_row rfl 42 _ rfl w5.heap.size rfl 42 #[.int .i64 pa, .int .i64 pb, .int .i64 pc, .int .i64 pd, .int .i64 px, .int .i64 py] (0, 0) _ HR6.out Tryz.underlying42 rfl ?_ ?_; (kernel_rfl))
       | (at_builtin; refine wpList_append_own _ rfl _ _ 22 rfl w1.heap.size 42 i0 (.agg #[.int .i64 0, .int .i64 0, .int .i64 0, .int .i64 0, .int .i64 0, .int .i64 0]) 6 48 Tryz.underlying22 hi hz0 hz1 hz2 rfl (by decide) _ _ _ rfl (Ho6.out.alloc _) ⟨W6.heap.size, 0, none⟩ 1 1 [.int .i64 pa, .int .i64 pb, .int .i64 pc, .int .i64 pd, .int .i64 px, .int .i64 py] rfl rfl (news11 _ _ _ _ rfl) ?c2 ?c3 ?c4 ?c5 ?_))
      case c2 => simp [Value.oneCell']
      case c3 => have := HLT.out; unfold maxLen; omega
      case c4 => omega
      case c5 => simp; try (have := Hsz.out; omega)
      intro v' w9 hown' hgrow _
      have hb1 := Lib.hid (Below.app Hb6.out Hsz.out Ho6.out hgrow)
      have ho1 := Lib.hid hown'
      clear hown' hgrow
      go_wp2
      go_roundg (N - (i + 1))
      case measure => have := HI.out; have := HLT.out; omega
      case rel => exact ⟨i + 1, S ++ [⟨pa, pb, pc, pd, px, py⟩], by have := HI.out; have := HLT.out; omega, by go_num, by unfold Hid; rw [List.length_append, HSL.out]; rfl, by unfold Hid; rw [sgC_snoc]; exact ho1.out, hb1, HG2⟩
  · obtain rfl : i = N := by omega
    have hn : ¬ (i : Int) < (i : Int) := by omega
    have cN := HCN.out wr Hb.out
    have HG2 : Hid (G = (i, decide (a = []), S)) := by
     unfold Hid
     rw [HG.out, HN.out, List.drop_of_length_le (Nat.le_refl _), HTL.out]
     exact last_sig hna.out _ _
    have HL := Lib.hid (emp_l a)
    obtain ⟨An, cn, rfl, hrd⟩ := owned_slice Ho.out
    have HRD := Lib.hid hrd
    clear hrd HG Ho
    by_cases ha : a = []
    · have e1 : (lb a).toList.isEmpty = true := by rw [HL.out, decide_eq_true ha]
      have HG3 : Hid (G = (i, true, S)) := by unfold Hid; rw [HG2.out, decide_eq_true ha]
      clear ha HG2
      obtain ⟨E, hE⟩ : ∃ E, E = sgsE S := ⟨_, rfl⟩
      have HC : Hid (∀ W, Rd W An (sgC S) → Calls Tryz.prog 12 #[.slice An i cn] W fun e w' => e = .returned (.int .i64 E) ∧ Below W.heap.size W w') := fun W hW => by
       have h := checkSignalsR_any An cn S W hW (by rw [HSL.out]; omega)
       rw [hE]
       rw [HSL.out] at h
       exact h
      have HE := Lib.hid hE
      clear hE
      have HB9 : Hid (Below w.heap.size w wr) := HB1.out.trans (Hb.out.mono HB1.out.size)
      by_cases h0 : E = 0
      · have e2 : (E != 0) = false := by simpa using h0
        have H0 := Lib.hid h0
        clear h0
        go_wp2_with fail
        refine (HC.out _ HRD.out).mono ?_
        rintro e w8 ⟨rfl, hb8⟩
        have HB8 := Lib.hid hb8
        clear hb8
        go_wp2_with fail
        exact bodyPost_ret (results3 rfl _ _) rfl (by exact spQ_good HG3.out (by rw [← HE.out]; exact H0.out) ⟨⟨An, cn, by rw [HSL.out]; rfl, HRD.out.below HB8.out⟩, HB9.out.trans (HB8.out.mono HB9.out.size)⟩)
      · have e2 : (E != 0) = true := by simpa using h0
        have H0 := Lib.hid h0
        clear h0
        go_wp2_with fail
        refine (HC.out _ HRD.out).mono ?_
        rintro e w8 ⟨rfl, hb8⟩
        have HB8 := Lib.hid hb8
        clear hb8
        go_wp2_with fail
        exact bodyPost_ret (results3 rfl _ _) rfl (by exact spQ_err HG3.out HE.out.symm H0.out ⟨rfl, HB9.out.trans (HB8.out.mono HB9.out.size)⟩)
    · have e1 : (lb a).toList.isEmpty = false := by rw [HL.out, decide_eq_false ha]
      have HG3 : Hid (G = (i, false, S)) := by unfold Hid; rw [HG2.out, decide_eq_false ha]
      clear ha HG2
      go_wp2_with fail
      exact bodyPost_ret (results3 rfl _ _) rfl (by exact spQ_bad HG3.out ⟨rfl, HB1.out.trans (Hb.out.mono HB1.out.size)⟩)
theorem sig_bytes (pp ta tb tc td tx ty : ByteArray) : ((((((((((((pp ++ ⟨#[115, 105, 103, 110, 97, 108, 32]⟩) ++ ta) ++ ⟨#[32]⟩) ++ tb) ++ ⟨#[32]⟩) ++ tc) ++ ⟨#[32]⟩) ++ td) ++ ⟨#[32]⟩) ++ tx) ++ ⟨#[32]⟩) ++ ty) ++ ⟨#[10]⟩ = lb (bl pp ++ bl (lineB [wSig, ta, tb, tc, td, tx, ty])) := by
 rw [lineB_bl]
 apply ByteArray.ext
 simp [ByteArray.data_append, lb, bl, Lib.join, wSig]
theorem flatC_app2 (a b : List ByteArray) : flatC (a ++ b) = flatC a ++ flatC b := by simp [flatC]
theorem printS_snoc (L : List Sg) (s : Sg) : printS (L ++ [s]) = printS L ++ bl (lineS s) := by
 unfold printS linesS
 rw [List.map_append, flatC_app2]
 simp [flatC, bl]
theorem printS_take_len {L : List Sg} (hg : ∀ s ∈ L, SigG s.a s.b s.c s.d s.x s.y) (i : Nat) (hi : i ≤ 256) : (printS (L.take i)).length ≤ 51200 := by
 have h := flatC_len (linesS (L.take i)) 200 (fun x hx => by
  obtain ⟨s, hs, rfl⟩ := List.mem_map.1 hx
  exact lineS_size (hg _ (List.mem_of_mem_take hs)))
 have h2 : (linesS (L.take i)).length ≤ 256 := by unfold linesS; rw [List.length_map]; exact Nat.le_trans (List.length_take_le _ _) hi
 have h3 : (linesS (L.take i)).length * 200 ≤ 256 * 200 := Nat.mul_le_mul_right _ h2
 unfold printS
 omega
set_option maxRecDepth 100000 in
set_option maxHeartbeats 4000000 in
theorem printSR_ok (A : Option Addr) (c : Nat) (L : List Sg) (w : World) (hA : Rd w A (sgC L)) (hn : L.length ≤ 256) (hg : ∀ s ∈ L, SigG s.a s.b s.c s.d s.x s.y) : Calls Tryz.prog 13 #[.slice A L.length c] w fun e w' => e = .returned (.string (lb (printS L))) ∧ Below w.heap.size w w' := by
 have HA := Lib.hid hA; have HG := Lib.hid hg; have HN := Lib.hid hn
 clear hA hg hn
 go_enter Tryz.func13, Tryz.ntmps13
 go_wp2_with fail
 go_loopg [3, 4] L.length (fun g s3 s4 wr => ∃ i : Nat, i + g = L.length ∧ s4 = .int .i64 i ∧ s3 = .string (lb (printS (L.take i))) ∧ Hid (Below w.heap.size w wr))
 case atStart => exact ⟨0, by omega, rfl, rfl, Below.refl _ _⟩
 case round =>
  obtain ⟨i, hi, rfl, rfl, Hb⟩ := hrel
  by_cases hlt : i < L.length
  · obtain ⟨b0, off, rfl, q0, q1, q2, q3, q4, q5⟩ := Rd.sg (HA.out.below Hb.out) hlt
    have hgs := HG.out _ (List.getElem_mem hlt)
    have hsn := printS_snoc (L.take i) L[i]
    rw [← List.take_succ_eq_append_getElem hlt] at hsn
    have zpp := printS_take_len HG.out i (by have := HN.out; omega)
    obtain ⟨⟨sa, sb, sc, sd, sx, sy⟩, hs⟩ : ∃ s, s = L[i] := ⟨_, rfl⟩
    rw [← hs] at q0 q1 q2 q3 q4 q5 hgs hsn
    dsimp only at q0 q1 q2 q3 q4 q5 hgs
    have bds := sg_i64 (s := ⟨sa, sb, sc, sd, sx, sy⟩) hgs
    have hsa : sa.natAbs ≤ 1000000000000 := by have := hgs.pa; omega
    have hsb : sb.natAbs ≤ 1000000000000 := by have := hgs.pb; omega
    have hsc : sc.natAbs ≤ 1000000000000 := by have := hgs.pc; omega
    have hsd : sd.natAbs ≤ 1000000000000 := by have := hgs.pd; omega
    have hsx : sx.natAbs ≤ 1000000000000 := by have := hgs.px; omega
    have hsy : sy.natAbs ≤ 1000000000000 := by have := hgs.py; omega
    have i1 : (i : Int) < (L.length : Int) := by omega
    obtain ⟨pp, hpp⟩ : ∃ pp, pp = lb (printS (L.take i)) := ⟨_, rfl⟩
    have zp : pp.size ≤ 51200 := by rw [hpp]; show (printS (L.take i)).toArray.size ≤ _; rw [List.size_toArray]; exact zpp
    obtain ⟨ta, hta⟩ : ∃ ta, ta = itoaB sa := ⟨_, rfl⟩
    have HT0 : Hid (∀ W, Calls Tryz.prog 60 #[.int .i64 sa] W fun e w' => e = .returned (.string ta) ∧ Below W.heap.size W w') := fun W => by rw [hta]; exact textR_any sa W hsa
    have ya : ta.size ≤ 21 := by rw [hta]; exact numeral_len sa (by omega)
    obtain ⟨tb, htb⟩ : ∃ tb, tb = itoaB sb := ⟨_, rfl⟩
    have HT1 : Hid (∀ W, Calls Tryz.prog 60 #[.int .i64 sb] W fun e w' => e = .returned (.string tb) ∧ Below W.heap.size W w') := fun W => by rw [htb]; exact textR_any sb W hsb
    have yb : tb.size ≤ 21 := by rw [htb]; exact numeral_len sb (by omega)
    obtain ⟨tc, htc⟩ : ∃ tc, tc = itoaB sc := ⟨_, rfl⟩
    have HT2 : Hid (∀ W, Calls Tryz.prog 60 #[.int .i64 sc] W fun e w' => e = .returned (.string tc) ∧ Below W.heap.size W w') := fun W => by rw [htc]; exact textR_any sc W hsc
    have yc : tc.size ≤ 21 := by rw [htc]; exact numeral_len sc (by omega)
    obtain ⟨td, htd⟩ : ∃ td, td = itoaB sd := ⟨_, rfl⟩
    have HT3 : Hid (∀ W, Calls Tryz.prog 60 #[.int .i64 sd] W fun e w' => e = .returned (.string td) ∧ Below W.heap.size W w') := fun W => by rw [htd]; exact textR_any sd W hsd
    have yd : td.size ≤ 21 := by rw [htd]; exact numeral_len sd (by omega)
    obtain ⟨tx, htx⟩ : ∃ tx, tx = itoaB sx := ⟨_, rfl⟩
    have HT4 : Hid (∀ W, Calls Tryz.prog 60 #[.int .i64 sx] W fun e w' => e = .returned (.string tx) ∧ Below W.heap.size W w') := fun W => by rw [htx]; exact textR_any sx W hsx
    have yx : tx.size ≤ 21 := by rw [htx]; exact numeral_len sx (by omega)
    obtain ⟨ty, hty⟩ : ∃ ty, ty = itoaB sy := ⟨_, rfl⟩
    have HT5 : Hid (∀ W, Calls Tryz.prog 60 #[.int .i64 sy] W fun e w' => e = .returned (.string ty) ∧ Below W.heap.size W w') := fun W => by rw [hty]; exact textR_any sy W hsy
    have yy : ty.size ≤ 21 := by rw [hty]; exact numeral_len sy (by omega)
    have hnew : ((((((((((((pp ++ ⟨#[115, 105, 103, 110, 97, 108, 32]⟩) ++ ta) ++ ⟨#[32]⟩) ++ tb) ++ ⟨#[32]⟩) ++ tc) ++ ⟨#[32]⟩) ++ td) ++ ⟨#[32]⟩) ++ tx) ++ ⟨#[32]⟩) ++ ty) ++ ⟨#[10]⟩ = lb (printS (L.take (i + 1))) := by
     rw [sig_bytes, hpp, hta, htb, htc, htd, htx, hty, bl_lb, hsn]; rfl
    have HNEW := Lib.hid hnew
    have z0 : ¬ 9223372036854775807 < pp.size + 7 := by omega
    have z1 : ¬ 9223372036854775807 < pp.size + 7 + ta.size := by omega
    have z2 : ¬ 9223372036854775807 < pp.size + 7 + ta.size + 1 := by omega
    have z3 : ¬ 9223372036854775807 < pp.size + 7 + ta.size + 1 + tb.size := by omega
    have z4 : ¬ 9223372036854775807 < pp.size + 7 + ta.size + 1 + tb.size + 1 := by omega
    have z5 : ¬ 9223372036854775807 < pp.size + 7 + ta.size + 1 + tb.size + 1 + tc.size := by omega
    have z6 : ¬ 9223372036854775807 < pp.size + 7 + ta.size + 1 + tb.size + 1 + tc.size + 1 := by omega
    have z7 : ¬ 9223372036854775807 < pp.size + 7 + ta.size + 1 + tb.size + 1 + tc.size + 1 + td.size := by omega
    have z8 : ¬ 9223372036854775807 < pp.size + 7 + ta.size + 1 + tb.size + 1 + tc.size + 1 + td.size + 1 := by omega
    have z9 : ¬ 9223372036854775807 < pp.size + 7 + ta.size + 1 + tb.size + 1 + tc.size + 1 + td.size + 1 + tx.size := by omega
    have z10 : ¬ 9223372036854775807 < pp.size + 7 + ta.size + 1 + tb.size + 1 + tc.size + 1 + td.size + 1 + tx.size + 1 := by omega
    have z11 : ¬ 9223372036854775807 < pp.size + 7 + ta.size + 1 + tb.size + 1 + tc.size + 1 + td.size + 1 + tx.size + 1 + ty.size := by omega
    have z12 : ¬ 9223372036854775807 < pp.size + 7 + ta.size + 1 + tb.size + 1 + tc.size + 1 + td.size + 1 + tx.size + 1 + ty.size + 1 := by omega
    have HLT := Lib.hid hlt; have HI := Lib.hid hi
    have hbi : i < 256 := by have := HN.out; omega
    rw [← hpp]
    clear hlt hi hgs hsn zpp hs bds hsa hsb hsc hsd hsx hsy hpp hta htb htc htd htx hty hnew zp ya yb yc yd yx yy
    go_upto_region 6 with (refine wpList_store_row rfl 42 _ _ rfl wr.heap.size #[.int .i64 sa, .int .i64 sb, .int .i64 sc, .int .i64 sd, .int .i64 sx, .int .i64 sy] rfl rfl 42 _ (Row.new wr 42 [.int .i64 0, .int .i64 0, .int .i64 0, .int .i64 0, .int .i64 0, .int .i64 0]) ?_ ?_ ?_ ?_; (kernel_rfl); (rfl); (simp [Value.oneCell']))
    refine genT (fun V => Row V wr.heap.size 42 [.int .i64 sa, .int .i64 sb, .int .i64 sc, .int .i64 sd, .int .i64 sx, .int .i64 sy] ∧ Below wr.heap.size wr V) ⟨(Row.new wr 42 [.int .i64 0, .int .i64 0, .int .i64 0, .int .i64 0, .int .i64 0, .int .i64 0]).setRow _, Below.setRow ((Below.refl _ _).alloc (Nat.le_refl _) _) (Nat.le_refl _) _⟩ ?_
    intro W6 s6
    have HS := Lib.hid s6
    clear s6 q0 q1 q2 q3 q4 q5
    go_upto_region 6 with fail
    refine wp_region_held_drew (S := fun V => Row V (wr.heap.size) 42 [.int .i64 sa, .int .i64 sb, .int .i64 sc, .int .i64 sd, .int .i64 sx, .int .i64 sy] ∧ Below wr.heap.size wr V) (by kernel_rfl) ?_ (fun hHeld => ?_)
    · exact ⟨(HS.out.1).drew, (HS.out.2).drew⟩
    refine tk 0 16 ?_ rfl (by kernel_rfl) (fun _ _ _ h => h) (by kernel_rfl) ?_ hHeld ?_
    rotate_left
    · intro w1 hSw; (try dsimp only at hSw); go_simp <;> with_reducible rfl
    try simp only [zz]
    refine tk 1 17 ?_ rfl (by kernel_rfl) (fun _ _ _ h => h) (by kernel_rfl) ?_ hHeld ?_
    rotate_left
    · intro w1 hSw; (try dsimp only at hSw); go_simp <;> with_reducible rfl
    try simp only [zz]
    refine tk 2 18 ?_ rfl (by kernel_rfl) (fun _ _ _ h => h) (by kernel_rfl) ?_ hHeld ?_
    rotate_left
    · intro w1 hSw; (try dsimp only at hSw); go_simp <;> with_reducible rfl
    try simp only [zz]
    refine tk 3 19 ?_ rfl (by kernel_rfl) (fun _ _ _ h => h) (by kernel_rfl) ?_ hHeld ?_
    rotate_left
    · intro w1 hSw; (try dsimp only at hSw); go_simp <;> with_reducible rfl
    try simp only [zz]
    refine tk 4 20 ?_ rfl (by kernel_rfl) (fun _ _ _ h => h) (by kernel_rfl) ?_ hHeld ?_
    rotate_left
    · intro w1 hSw; (try dsimp only at hSw); have cc := (hSw.1).cell 0; simp only [List.getElem?_cons_succ, List.getElem?_cons_zero] at cc; go_simp <;> with_reducible rfl
    try simp only [zz]
    refine tk 8 24 ?_ rfl (by kernel_rfl) (fun _ _ _ h => h) (by kernel_rfl) ?_ hHeld ?_
    rotate_left
    · intro w1 hSw; (try dsimp only at hSw); go_simp <;> with_reducible rfl
    try simp only [zz]
    refine tk 9 25 ?_ rfl (by kernel_rfl) (fun _ _ _ h => h) (by kernel_rfl) ?_ hHeld ?_
    rotate_left
    · intro w1 hSw; (try dsimp only at hSw); go_simp <;> with_reducible rfl
    try simp only [zz]
    refine tk 10 26 ?_ rfl (by kernel_rfl) (fun _ _ _ h => h) (by kernel_rfl) ?_ hHeld ?_
    rotate_left
    · intro w1 hSw; (try dsimp only at hSw); have cc := (hSw.1).cell 1; simp only [List.getElem?_cons_succ, List.getElem?_cons_zero] at cc; go_simp <;> with_reducible rfl
    try simp only [zz]
    refine tk 14 30 ?_ rfl (by kernel_rfl) (fun _ _ _ h => h) (by kernel_rfl) ?_ hHeld ?_
    rotate_left
    · intro w1 hSw; (try dsimp only at hSw); go_simp <;> with_reducible rfl
    try simp only [zz]
    refine tk 15 31 ?_ rfl (by kernel_rfl) (fun _ _ _ h => h) (by kernel_rfl) ?_ hHeld ?_
    rotate_left
    · intro w1 hSw; (try dsimp only at hSw); go_simp <;> with_reducible rfl
    try simp only [zz]
    refine tk 16 32 ?_ rfl (by kernel_rfl) (fun _ _ _ h => h) (by kernel_rfl) ?_ hHeld ?_
    rotate_left
    · intro w1 hSw; (try dsimp only at hSw); have cc := (hSw.1).cell 2; simp only [List.getElem?_cons_succ, List.getElem?_cons_zero] at cc; go_simp <;> with_reducible rfl
    try simp only [zz]
    refine tk 20 36 ?_ rfl (by kernel_rfl) (fun _ _ _ h => h) (by kernel_rfl) ?_ hHeld ?_
    rotate_left
    · intro w1 hSw; (try dsimp only at hSw); go_simp <;> with_reducible rfl
    try simp only [zz]
    refine tk 21 37 ?_ rfl (by kernel_rfl) (fun _ _ _ h => h) (by kernel_rfl) ?_ hHeld ?_
    rotate_left
    · intro w1 hSw; (try dsimp only at hSw); go_simp <;> with_reducible rfl
    try simp only [zz]
    refine tk 22 38 ?_ rfl (by kernel_rfl) (fun _ _ _ h => h) (by kernel_rfl) ?_ hHeld ?_
    rotate_left
    · intro w1 hSw; (try dsimp only at hSw); have cc := (hSw.1).cell 3; simp only [List.getElem?_cons_succ, List.getElem?_cons_zero] at cc; go_simp <;> with_reducible rfl
    try simp only [zz]
    refine tk 26 42 ?_ rfl (by kernel_rfl) (fun _ _ _ h => h) (by kernel_rfl) ?_ hHeld ?_
    rotate_left
    · intro w1 hSw; (try dsimp only at hSw); go_simp <;> with_reducible rfl
    try simp only [zz]
    refine tk 27 43 ?_ rfl (by kernel_rfl) (fun _ _ _ h => h) (by kernel_rfl) ?_ hHeld ?_
    rotate_left
    · intro w1 hSw; (try dsimp only at hSw); go_simp <;> with_reducible rfl
    try simp only [zz]
    refine tk 28 44 ?_ rfl (by kernel_rfl) (fun _ _ _ h => h) (by kernel_rfl) ?_ hHeld ?_
    rotate_left
    · intro w1 hSw; (try dsimp only at hSw); have cc := (hSw.1).cell 4; simp only [List.getElem?_cons_succ, List.getElem?_cons_zero] at cc; go_simp <;> with_reducible rfl
    try simp only [zz]
    refine tk 32 48 ?_ rfl (by kernel_rfl) (fun _ _ _ h => h) (by kernel_rfl) ?_ hHeld ?_
    rotate_left
    · intro w1 hSw; (try dsimp only at hSw); go_simp <;> with_reducible rfl
    try simp only [zz]
    refine tk 33 49 ?_ rfl (by kernel_rfl) (fun _ _ _ h => h) (by kernel_rfl) ?_ hHeld ?_
    rotate_left
    · intro w1 hSw; (try dsimp only at hSw); go_simp <;> with_reducible rfl
    try simp only [zz]
    refine tk 34 50 ?_ rfl (by kernel_rfl) (fun _ _ _ h => h) (by kernel_rfl) ?_ hHeld ?_
    rotate_left
    · intro w1 hSw; (try dsimp only at hSw); have cc := (hSw.1).cell 5; simp only [List.getElem?_cons_succ, List.getElem?_cons_zero] at cc; go_simp <;> with_reducible rfl
    try simp only [zz]
    refine st1 5 (by kernel_rfl) rfl (fun K hK => ?_)
    go_simp
    go_at_call 60
    refine (HT0.out _).mono ?_
    rintro e v5 ⟨rfl, hb5⟩
    try go_simp
    refine hK.out _ _ ?_ (fun hHeld => ?_)
    · exact ⟨(hHeld.1).old hb5, (hHeld.2).trans ((hb5).mono (hHeld.2).size)⟩
    clear hK K
    try simp only [zz]
    refine tk 6 22 ?_ rfl (by kernel_rfl) (fun _ _ _ h => h) (by kernel_rfl) ?_ hHeld ?_
    rotate_left
    · intro w1 hSw; (try dsimp only at hSw); go_simp <;> with_reducible rfl
    try simp only [zz]
    refine tk 7 23 ?_ rfl (by kernel_rfl) (fun _ _ _ h => h) (by kernel_rfl) ?_ hHeld ?_
    rotate_left
    · intro w1 hSw; (try dsimp only at hSw); go_simp <;> with_reducible rfl
    try simp only [zz]
    refine st1 11 (by kernel_rfl) rfl (fun K hK => ?_)
    go_simp
    go_at_call 60
    refine (HT1.out _).mono ?_
    rintro e v11 ⟨rfl, hb11⟩
    try go_simp
    refine hK.out _ _ ?_ (fun hHeld => ?_)
    · exact ⟨(hHeld.1).old hb11, (hHeld.2).trans ((hb11).mono (hHeld.2).size)⟩
    clear hK K
    try simp only [zz]
    refine tk 12 28 ?_ rfl (by kernel_rfl) (fun _ _ _ h => h) (by kernel_rfl) ?_ hHeld ?_
    rotate_left
    · intro w1 hSw; (try dsimp only at hSw); go_simp <;> with_reducible rfl
    try simp only [zz]
    refine tk 13 29 ?_ rfl (by kernel_rfl) (fun _ _ _ h => h) (by kernel_rfl) ?_ hHeld ?_
    rotate_left
    · intro w1 hSw; (try dsimp only at hSw); go_simp <;> with_reducible rfl
    try simp only [zz]
    refine st1 17 (by kernel_rfl) rfl (fun K hK => ?_)
    go_simp
    go_at_call 60
    refine (HT2.out _).mono ?_
    rintro e v17 ⟨rfl, hb17⟩
    try go_simp
    refine hK.out _ _ ?_ (fun hHeld => ?_)
    · exact ⟨(hHeld.1).old hb17, (hHeld.2).trans ((hb17).mono (hHeld.2).size)⟩
    clear hK K
    try simp only [zz]
    refine tk 18 34 ?_ rfl (by kernel_rfl) (fun _ _ _ h => h) (by kernel_rfl) ?_ hHeld ?_
    rotate_left
    · intro w1 hSw; (try dsimp only at hSw); go_simp <;> with_reducible rfl
    try simp only [zz]
    refine tk 19 35 ?_ rfl (by kernel_rfl) (fun _ _ _ h => h) (by kernel_rfl) ?_ hHeld ?_
    rotate_left
    · intro w1 hSw; (try dsimp only at hSw); go_simp <;> with_reducible rfl
    try simp only [zz]
    refine st1 23 (by kernel_rfl) rfl (fun K hK => ?_)
    go_simp
    go_at_call 60
    refine (HT3.out _).mono ?_
    rintro e v23 ⟨rfl, hb23⟩
    try go_simp
    refine hK.out _ _ ?_ (fun hHeld => ?_)
    · exact ⟨(hHeld.1).old hb23, (hHeld.2).trans ((hb23).mono (hHeld.2).size)⟩
    clear hK K
    try simp only [zz]
    refine tk 24 40 ?_ rfl (by kernel_rfl) (fun _ _ _ h => h) (by kernel_rfl) ?_ hHeld ?_
    rotate_left
    · intro w1 hSw; (try dsimp only at hSw); go_simp <;> with_reducible rfl
    try simp only [zz]
    refine tk 25 41 ?_ rfl (by kernel_rfl) (fun _ _ _ h => h) (by kernel_rfl) ?_ hHeld ?_
    rotate_left
    · intro w1 hSw; (try dsimp only at hSw); go_simp <;> with_reducible rfl
    try simp only [zz]
    refine st1 29 (by kernel_rfl) rfl (fun K hK => ?_)
    go_simp
    go_at_call 60
    refine (HT4.out _).mono ?_
    rintro e v29 ⟨rfl, hb29⟩
    try go_simp
    refine hK.out _ _ ?_ (fun hHeld => ?_)
    · exact ⟨(hHeld.1).old hb29, (hHeld.2).trans ((hb29).mono (hHeld.2).size)⟩
    clear hK K
    try simp only [zz]
    refine tk 30 46 ?_ rfl (by kernel_rfl) (fun _ _ _ h => h) (by kernel_rfl) ?_ hHeld ?_
    rotate_left
    · intro w1 hSw; (try dsimp only at hSw); go_simp <;> with_reducible rfl
    try simp only [zz]
    refine tk 31 47 ?_ rfl (by kernel_rfl) (fun _ _ _ h => h) (by kernel_rfl) ?_ hHeld ?_
    rotate_left
    · intro w1 hSw; (try dsimp only at hSw); go_simp <;> with_reducible rfl
    try simp only [zz]
    refine st1 35 (by kernel_rfl) rfl (fun K hK => ?_)
    go_simp
    go_at_call 60
    refine (HT5.out _).mono ?_
    rintro e v35 ⟨rfl, hb35⟩
    try go_simp
    refine hK.out _ _ ?_ (fun hHeld => ?_)
    · exact ⟨(hHeld.1).old hb35, (hHeld.2).trans ((hb35).mono (hHeld.2).size)⟩
    clear hK K
    try simp only [zz]
    refine tk 36 52 ?_ rfl (by kernel_rfl) (fun _ _ _ h => h) (by kernel_rfl) ?_ hHeld ?_
    rotate_left
    · intro w1 hSw; (try dsimp only at hSw); go_simp <;> with_reducible rfl
    try simp only [zz]
    refine tk 37 53 ?_ rfl (by kernel_rfl) (fun _ _ _ h => h) (by kernel_rfl) ?_ hHeld ?_
    rotate_left
    · intro w1 hSw; (try dsimp only at hSw); go_simp <;> with_reducible rfl
    try simp only [zz]
    refine tk 38 3 ?_ rfl (by kernel_rfl) (fun _ _ _ h => h) (by kernel_rfl) ?_ hHeld ?_
    rotate_left
    · intro w1 hSw; (try dsimp only at hSw); go_simp <;> with_reducible rfl
    try simp only [zz]
    refine wpAnyH_done (by kernel_rfl) ?_ _
    rw [HNEW.out]
    clear HNEW HS
    go_wp2_with fail
    go_roundg (L.length - (i + 1))
    case measure => have := HI.out; have := HLT.out; omega
    case rel =>
     exact ⟨i + 1, by have := HI.out; have := HLT.out; omega, by go_num, rfl, Hb.out.trans (hHeld.2.mono Hb.out.size)⟩
  · obtain rfl : i = L.length := by omega
    have hn : ¬ (L.length : Int) < (L.length : Int) := by omega
    rw [List.take_of_length_le (Nat.le_refl _)]
    go_wp2_with fail
    go_ret
    exact ⟨rfl, Hb.out⟩
end Go.Proofs.YtgbkblbfgknheaaGreatDoor
