import Derived.Test.YtjdniebjhilooaaGreatDoorM33
namespace Go.Proofs.YtjdniebjhilooaaGreatDoor
set_option linter.all false
open Go.RowKit Go.Fl
def VA := @List.setIfInBounds_toArray
def VD := @wpAnyH_take
def VE := @AllReadyH.cons
def VF := @AllReadyH.nil
def VG := @wpAnyH_ready
def VB := @List.set_cons_zero
def VC := @List.set_cons_succ
def RpQ (w : World) (G : Nat × Bool × PaS) : Ending → World → Prop := fun e w' =>
 (G.2.1 = false → e = .returned (.tuple #[zaggV, .int .i64 G.1, .int .i64 25]) ∧ Below w.heap.size w w') ∧
 (G.2.1 = true → G.1 = 0 → e = .returned (.tuple #[zaggV, .int .i64 0, .int .i64 25]) ∧ Below w.heap.size w w') ∧
 (G.2.1 = true → G.1 ≠ 0 → recI G.2.2.1 G.2.2.2.1 G.2.2.2.2.1 G.2.2.2.2.2 ≠ 0 → e = .returned (.tuple #[zaggV, .int .i64 G.1, .int .i64 (recI G.2.2.1 G.2.2.2.1 G.2.2.2.2.1 G.2.2.2.2.2)]) ∧ Below w.heap.size w w') ∧
 (G.2.1 = true → G.1 ≠ 0 → recI G.2.2.1 G.2.2.2.1 G.2.2.2.2.1 G.2.2.2.2.2 = 0 → ∃ A c B d, e = .returned (.tuple #[.agg #[.int .i64 G.2.2.1, .int .i64 G.2.2.2.1, .slice A G.2.2.2.2.1.length c, .slice B G.2.2.2.2.2.length d], .int .i64 0, .int .i64 0]) ∧ Rd w' A (flts G.2.2.2.2.1) ∧ Rd w' B (markC G.2.2.2.2.2) ∧ (A = none → c = 0) ∧ Below w.heap.size w w')
theorem rpQ_bad {w w' : World} {G : Nat × Bool × PaS} {n : Nat} {S : PaS} {e : Ending} (hG : G = (n, false, S)) (h : e = .returned (.tuple #[zaggV, .int .i64 n, .int .i64 25]) ∧ Below w.heap.size w w') : RpQ w G e w' := by
 subst hG
 exact ⟨fun _ => h, fun h1 => (by cases h1), fun h1 => (by cases h1), fun h1 => (by cases h1)⟩
theorem rpQ_empty {w w' : World} {G : Nat × Bool × PaS} {S : PaS} {e : Ending} (hG : G = (0, true, S)) (h : e = .returned (.tuple #[zaggV, .int .i64 0, .int .i64 25]) ∧ Below w.heap.size w w') : RpQ w G e w' := by
 subst hG
 exact ⟨fun h1 => (by cases h1), fun _ _ => h, fun _ h1 => absurd rfl h1, fun _ h1 => absurd rfl h1⟩
theorem firstI_nils : ∀ l : List Int, (∀ x ∈ l, x = 0) → firstI l = 0
 | [], _ => rfl
 | x :: l, h => by rw [firstI_cons, if_pos (h x (by simp))]; exact firstI_nils l (fun y hy => h y (by simp [hy]))
theorem rec_first {st sp k : Int} {ns : List Int} {ms : List (Int × ByteArray)} (hl : ns.length ≤ 4096) (h : k = firstI [whenI (rangeB st 0 100000000) 3, whenI (rangeB sp 1 1000) 3, whenI (decide (4096 < (ns.length : Int))) 5]) (hk : k ≠ 0) : recI st sp (ns.map fb) ms = k := by
 have h3 : whenI (decide (4096 < (ns.length : Int))) 5 = 0 := by rw [decide_eq_false (by omega)]; rfl
 rw [h3] at h
 unfold recI
 generalize whenI (rangeB st 0 100000000) 3 = A at *
 generalize whenI (rangeB sp 1 1000) 3 = B at *
 rw [firstI_cons, firstI_cons]
 rw [firstI_cons, firstI_cons, firstI_cons, firstI_nil] at h
 by_cases hA : A = 0
 · rw [if_pos hA] at h ⊢
   by_cases hB : B = 0
   · rw [if_pos hB, if_pos rfl] at h; exact absurd h hk
   · rw [if_neg hB] at h ⊢; exact h.symm
 · rw [if_neg hA] at h ⊢; exact h.symm
theorem unit_samp {n : Int} (hn : n.natAbs < 2 ^ 30) : sampI (fb n) = whenI (rangeB n (-16384) 16384) 3 := by
 rw [samp_range hn]
 congr 1
 unfold rangeB
 rw [Bool.eq_iff_iff]
 simp
 omega
theorem rec_unit {st sp : Int} {ns : List Int} {ms : List (Int × ByteArray)} {k : Nat} (hl : ns.length ≤ 4096) (h : 0 = firstI [whenI (rangeB st 0 100000000) 3, whenI (rangeB sp 1 1000) 3, whenI (decide (4096 < (ns.length : Int))) 5]) (hk : k < ns.length) (h0 : ∀ n ∈ ns.take k, sampI (fb n) = 0) (h3 : sampI (fb ns[k]) = 3) : recI st sp (ns.map fb) ms = 3 := by
 obtain ⟨hA, hB, -⟩ := firstI_three h.symm
 have hs : sampsI (ns.map fb) = 3 := by
  unfold sampsI
  rw [if_neg (by rw [List.length_map]; omega)]
  have e : ns = ns.take k ++ ns[k] :: ns.drop (k + 1) := by rw [← List.drop_eq_getElem_cons hk, List.take_append_drop]
  rw [e, List.map_append, List.map_append, firstI_app, if_pos, List.map_cons, List.map_cons, firstI_cons, h3]
  · rfl
  · refine firstI_nils _ (fun x hx => ?_)
    simp only [List.mem_map] at hx
    obtain ⟨y, ⟨n, hn, rfl⟩, rfl⟩ := hx
    exact h0 n hn
 unfold recI
 rw [hA, hB, hs]
 rfl
theorem rpQ_err {w w' : World} {G : Nat × Bool × PaS} {n : Nat} {S : PaS} {e : Ending} {k : Int} (hG : G = (n, true, S)) (hn : n ≠ 0) (hk : recI S.1 S.2.1 S.2.2.1 S.2.2.2 = k) (hk0 : k ≠ 0) (h : e = .returned (.tuple #[zaggV, .int .i64 n, .int .i64 k]) ∧ Below w.heap.size w w') : RpQ w G e w' := by
 subst hG; subst hk
 exact ⟨fun h1 => (by cases h1), fun _ h1 => absurd h1 hn, fun _ _ _ => h, fun _ _ h1 => absurd h1 hk0⟩
theorem rpQ_good {w w' : World} {G : Nat × Bool × PaS} {n : Nat} {S : PaS} {e : Ending} (hG : G = (n, true, S)) (hn : n ≠ 0) (hk : recI S.1 S.2.1 S.2.2.1 S.2.2.2 = 0) (h : ∃ A c B d, e = .returned (.tuple #[.agg #[.int .i64 S.1, .int .i64 S.2.1, .slice A S.2.2.1.length c, .slice B S.2.2.2.length d], .int .i64 0, .int .i64 0]) ∧ Rd w' A (flts S.2.2.1) ∧ Rd w' B (markC S.2.2.2) ∧ (A = none → c = 0) ∧ Below w.heap.size w w') : RpQ w G e w' := by
 subst hG
 exact ⟨fun h1 => (by cases h1), fun _ h1 => absurd h1 hn, fun _ _ h1 => absurd hk h1, fun _ _ _ => h⟩
theorem rec_l (x : ByteArray) : (x.toList == [114, 101, 99, 111, 114, 100, 105, 110, 103]) = eqW wRec x := by
 unfold eqW; rw [show wRec.toList = [114, 101, 99, 111, 114, 100, 105, 110, 103] by rw [ByteArray.toList_eq]; rfl, Bool.eq_iff_iff, beq_iff_eq, beq_iff_eq]; exact eq_comm
theorem mark_l (x : ByteArray) : (x.toList == [109, 97, 114, 107]) = eqW wMark x := by
 unfold eqW; rw [show wMark.toList = [109, 97, 114, 107] by rw [ByteArray.toList_eq]; rfl, Bool.eq_iff_iff, beq_iff_eq, beq_iff_eq]; exact eq_comm
theorem samp_l (x : ByteArray) : (x.toList == [115, 97, 109, 112, 108, 101]) = eqW wSamp x := by
 unfold eqW; rw [show wSamp.toList = [115, 97, 109, 112, 108, 101] by rw [ByteArray.toList_eq]; rfl, Bool.eq_iff_iff, beq_iff_eq, beq_iff_eq]; exact eq_comm
theorem lb_toL (a : List UInt8) : (lb a).toList = a := by rw [ByteArray.toList_eq]; rfl
set_option maxRecDepth 100000 in
set_option maxHeartbeats 4000000 in
theorem parseR_any (s : ByteArray) (w : World) (hs : s.size ≤ 4096) :
 Calls Tryz.prog 14 #[.string s] w fun e w' => RpQ w (linesGo 0 zeroS (linesL s)) e w' := by
 obtain ⟨G, hG⟩ : ∃ G, G = linesGo 0 zeroS (linesL s) := ⟨_, rfl⟩
 rw [← hG]
 obtain ⟨ps, a, hcut, -⟩ := cut_both 10 (bl s)
 have hno : Hid (∀ p ∈ ps, (10 : UInt8) ∉ p) := fun p hp => piece_no 10 (bl s) p (by rw [hcut]; exact List.mem_append_left _ hp)
 have hna : Hid ((10 : UInt8) ∉ a) := piece_no 10 (bl s) a (by rw [hcut]; simp)
 obtain ⟨tl, htl⟩ : ∃ tl, tl = (if a = [] then [] else [lb a]) := ⟨_, rfl⟩
 have HG := Lib.hid (by rw [hG, lines_pieces hcut, ← htl] : G = linesGo 0 zeroS ((ps.map fun p => lb (p ++ [10])) ++ tl))
 have HTL := Lib.hid htl
 have hnp : Hid (ps.length + 1 ≤ s.size + 1) := by
  have h1 := cut_count 10 (bl s)
  rw [hcut, List.length_append, List.length_singleton, ← bl_len s] at *
  have h2 : (bl s).count 10 ≤ (bl s).length := List.count_le_length
  unfold Hid
  omega
 have hpS : Hid (∀ p ∈ ps, p.length + 1 ≤ s.size) := fun p hp => by
  have h1 := linesL_small (s := s) (x := lb (p ++ [10])) (by rw [lines_pieces hcut]; exact List.mem_append_left _ (List.mem_map.2 ⟨p, hp, rfl⟩))
  have h2 : (lb (p ++ [10])).size = (p ++ [10]).length := List.size_toArray
  rw [h2, List.length_append] at h1
  exact h1
 have hln : (cutG 10 0 (bl s)).length = ps.length + 1 := by rw [hcut, List.length_append]; rfl
 have hSP : Hid (∀ W, Calls Tryz.prog 30 #[.string s, .int .u8 10] W fun e w' => ∃ A k, e = .returned (.slice A (ps.length + 1) k) ∧ Rd w' A (strs (ps.map lb ++ [lb a])) ∧ Below W.heap.size W w') := fun W => by
  have h := splitR_full s 10 W (by omega)
  rw [hln, hcut, List.map_append] at h
  exact h
 have i1 : ¬ (4096 : Int) < (s.size : Int) := by omega
 obtain ⟨N, hN⟩ : ∃ N, N = ps.length := ⟨_, rfl⟩
 rw [← hN] at hSP hnp
 have hN9 : N ≤ 4096 := by have := hnp.out; omega
 have HN := Lib.hid hN
 clear hG hcut htl hln hnp hN
 go_enter Tryz.func14, Tryz.ntmps14
 go_upto_region 1 with fail
 refine genR (fun V => Hid (Row V w.heap.size 25 zero4) ∧ Hid (Below w.heap.size w V) ∧ Hid (w.heap.size + 1 ≤ V.heap.size)) ⟨Row.new w 25 zero4, (Below.refl _ _).alloc (Nat.le_refl _) _, by unfold Hid; simp⟩ ?_
 rintro W ⟨HR0, HB0, HS0⟩
 go_wp2_with fail
 refine (hSP.out _).mono ?_
 rintro e w1 ⟨A, k, rfl, hA, hb⟩
 have HR1 := Lib.hid (HR0.out.old hb); have HB1 := Lib.hid (HB0.out.trans (hb.mono HB0.out.size)); have HLt : Hid (w.heap.size < w1.heap.size) := by have := HS0.out; have := hb.size; unfold Hid; omega
 have HA1 := Lib.hid hA
 clear HR0 HB0 HS0 hb hA hSP
 obtain ⟨PS, hPS⟩ : ∃ PS, PS = ps.map lb ++ [lb a] := ⟨_, rfl⟩
 have HPS := Lib.hid hPS
 rw [← hPS] at HA1
 clear hPS
 have hPl : PS.length = N + 1 := by rw [HPS.out, List.length_append, List.length_map, ← HN.out]; rfl
 have hPN : PS[N]'(by omega) = lb a := by
  have h : PS[N]? = some (lb a) := by rw [HPS.out, HN.out]; simp
  exact Option.some.inj (by rw [← h, List.getElem?_eq_getElem (by omega)])
 obtain ⟨b, off, hAe, hc0⟩ := HA1.out.str (j := N) (by omega)
 subst hAe
 have HCN : Hid (∀ V, Below w1.heap.size w1 V → V.cell? ⟨b, off + N, none⟩ = some (.string (lb a))) := fun V hV => by
  obtain ⟨b', off', e, h⟩ := (HA1.out.below hV).str (j := N) (by omega)
  cases e
  rw [h, hPN]
 have HCI : Hid (∀ V (i : Nat) (hi : i < ps.length), Below w1.heap.size w1 V → V.cell? ⟨b, off + i, none⟩ = some (.string (lb ps[i]))) := fun V i hi hV => by
  obtain ⟨b', off', e, h⟩ := (HA1.out.below hV).str (j := i) (by rw [hPl, HN.out]; omega)
  cases e
  rw [h]
  have h2 : PS[i]? = some (lb ps[i]) := by rw [HPS.out, List.getElem?_append_left (by simpa using hi), List.getElem?_map, List.getElem?_eq_getElem hi]; rfl
  exact congrArg (fun x => some (Value.string x)) (Option.some.inj (by rw [← h2, List.getElem?_eq_getElem]))
 clear hc0 hPN hPl
 go_upto_region 5 with fail
 go_cut [38] from 31 to 37 (fun s38 wx => s38 = .bool (decide (N = 0 ∧ a = [])) ∧ w1 = wx)
 case first =>
  by_cases hN0 : N = 0
  · have c0 := HCN.out w1 (Below.refl _ _)
    rw [hN0, Nat.add_zero] at c0
    subst hN0
    by_cases ha : a = []
    · have e0 : (lb a).toList.isEmpty = true := by rw [lb_toL, ha]; rfl
      have HA := Lib.hid ha
      clear ha
      go_wp2_with fail
      go_meet
      exact ⟨by simp [HA.out], rfl⟩
    · have e0 : (lb a).toList.isEmpty = false := by rw [lb_toL]; cases a with | nil => exact absurd rfl ha | cons x y => rfl
      have HA := Lib.hid ha
      clear ha
      go_wp2_with fail
      go_meet
      exact ⟨by simp [HA.out], rfl⟩
  · have i3 : ¬ (N : Int) = 0 := by omega
    go_wp2_with fail
    go_meet
    exact ⟨by rw [decide_eq_false (fun h => hN0 h.1)], rfl⟩
 obtain ⟨rfl, rfl⟩ := hcut
 by_cases he : N = 0 ∧ a = []
 · obtain ⟨hN0, ha⟩ := he
   subst hN0
   rw [decide_eq_true ⟨rfl, ha⟩]
   have HA := Lib.hid ha
   have hr9 := HR1.out
   have z0 := hr9.cell 0; have z1 := hr9.cell 1; have z2 := hr9.cell 2; have z3 := hr9.cell 3
   have f0 := hr9.free 0; have f1 := hr9.free 1; have f2 := hr9.free 2; have f3 := hr9.free 3
   simp only [zero4, List.getElem?_cons_succ, List.getElem?_cons_zero] at z0 z1 z2 z3
   clear hr9 ha
   go_wp2_with fail
   refine rp_out (w := w) 0 25 ?_ ?_ ?_ HR1.out HB1.out ?_ (fun e w' h => ?_)
   · rfl
   · rfl
   · rfl
   · rfl
   · exact rpQ_empty (S := zeroS) (by rw [HG.out, HTL.out, HA.out, List.length_eq_zero_iff.1 HN.out.symm]; rfl) h
 rw [decide_eq_false he]
 have HNE := Lib.hid he
 clear he
 go_upto_region 8 with (refine wpList_store_row rfl 25 _ _ rfl w1.heap.size zero4.toArray rfl rfl 25 _ (Row.new w1 25 zero4) ?_ ?_ ?_ ?_; (kernel_rfl); (rfl); (simp [zero4, Value.oneCell']))
 have nb := new_below w1 (.cells zero4.toArray 25) zero4.toArray
 refine genR (fun V => Hid (RpI w1 0 0 [] [] (.slice none 0 0) (.slice none 0 0) V)) ⟨new_row w1 25 zero4 zero4, World.ownsRow_nil _ _ _ _, World.ownsRow_nil _ _ _ _, nb, by simp⟩ ?_
 clear nb
 rintro W2 HRP
 go_wp2_with fail
 go_loopg [8, 9] N (fun g s8 s9 wr => ∃ (i : Nat) (st sp : Int) (ns : List Int) (ms : List (Int × ByteArray)) (vm : Value), i + g = N ∧ s9 = .int .i64 i ∧ Hid (RpI w1 st sp ns ms s8 vm wr) ∧ Hid (G = linesGo i (st, sp, ns.map fb, ms) ((ps.drop i).map (fun p => lb (p ++ [10])) ++ tl)) ∧ Hid (ns.length ≤ i ∧ ms.length ≤ i ∧ ∀ n ∈ ns, n.natAbs < 2 ^ 30))
 case atStart => exact ⟨0, 0, 0, [], [], .slice none 0 0, by omega, rfl, HRP, HG, Nat.le_refl _, Nat.le_refl _, fun n hn => by cases hn⟩
 case round =>
  clear HRP HG
  obtain ⟨i, st, sp, ns, ms, vm, hi, rfl, HRP, HG, HL⟩ := hrel
  by_cases hlt : i < N
  · have hip : i < ps.length := by have := HN.out; omega
    have c0 := HCI.out wr i hip HRP.out.below
    obtain ⟨p, hp⟩ : ∃ p, p = ps[i] := ⟨_, rfl⟩
    rw [← hp] at c0
    have hno1 := hno.out p (by rw [hp]; exact List.getElem_mem hip)
    have HST := Lib.hid (step_ref hno1 i (st, sp, ns.map fb, ms) (((ps.drop (i + 1)).map fun p => lb (p ++ [10])) ++ tl))
    have HDR : Hid (((ps.drop i).map fun p => lb (p ++ [10])) ++ tl = lb (p ++ [10]) :: (((ps.drop (i + 1)).map fun p => lb (p ++ [10])) ++ tl)) := by
     unfold Hid
     rw [List.drop_eq_getElem_cons hip, ← hp]
     first | done | rfl
    obtain ⟨S9, hS9⟩ : ∃ S9, S9 = (stepR i (st, sp, ns.map fb, ms) (lb (p ++ [10]))).2 := ⟨_, rfl⟩
    rw [← hS9] at HST
    obtain ⟨ws, hws⟩ : ∃ ws, ws = (cutG 32 0 p).map lb := ⟨_, rfl⟩
    rw [← hws] at HST
    have HG2 : Hid (G = if refOk i (st, sp, ns.map fb, ms) ws = true then linesGo (i + 1) (refS i (st, sp, ns.map fb, ms) ws) (((ps.drop (i + 1)).map fun p => lb (p ++ [10])) ++ tl) else (i, false, S9)) := HG.out.trans (by rw [HDR.out]; exact HST.out)
    have hpz : (lb p).size ≤ 100000 := by
     have h1 := hpS.out p (by rw [hp]; exact List.getElem_mem hip)
     have h2 : (lb p).size = p.length := List.size_toArray
     omega
    have hSP : Hid (∀ W, Calls Tryz.prog 30 #[.string (lb p), .int .u8 32] W fun e w' => ∃ A k, e = .returned (.slice A ws.length k) ∧ Rd w' A (strs ws) ∧ Below W.heap.size W w') := fun W => by
     have h := splitR_full (lb p) 32 W hpz
     rw [bl_lb, ← hws] at h
     rw [hws, List.length_map]
     rw [hws] at h
     exact h
    have i2 : (i : Int) < (N : Int) := by omega
    clear hp hno1 HST HDR HG hS9 hws hpz hip
    go_wp2_with fail
    refine (hSP.out _).mono ?_
    rintro e w5 ⟨A2, k2, rfl, hA2, hb5⟩
    have HRP5 := Lib.hid (HRP.out.old hb5)
    have HA2 := Lib.hid hA2
    clear hSP HRP hA2 hb5 c0
    go_upto_region 13 with fail
    by_cases hi0 : i = 0
    · have HRO : Hid (refOk i (st, sp, ns.map fb, ms) ws = (decide (ws.length = 3) && eqW wRec (headW ws) && headOk ws.tail)) := by unfold Hid refOk; rw [if_pos hi0]
      have HI0 := Lib.hid hi0
      have i3 : (i : Int) = 0 := by omega
      clear hi0
      by_cases h3 : ws.length = 3
      · skip
        obtain ⟨x, y, z, rfl⟩ : ∃ x y z, ws = [x, y, z] := by
         match ws, h3 with
         | [x, y, z], _ => exact ⟨x, y, z, rfl⟩
        obtain ⟨b2, o2, hA2, c0⟩ := HA2.out.str (j := 0) (by simp)
        subst hA2
        have HC1 : Hid (∀ V, Below w5.heap.size w5 V → V.cell? ⟨b2, o2 + 1, none⟩ = some (.string y) ∧ V.cell? ⟨b2, o2 + 2, none⟩ = some (.string z)) := fun V hV => by
         obtain ⟨b', o', e, h⟩ := (HA2.out.below hV).str (j := 1) (by simp)
         cases e
         obtain ⟨b', o', e, h'⟩ := (HA2.out.below hV).str (j := 2) (by simp)
         cases e
         exact ⟨h, h'⟩
        simp only [List.getElem_cons_zero, Nat.add_zero] at c0
        by_cases hw : eqW wRec x = true
        · have e1 : (x.toList == [114, 101, 99, 111, 114, 100, 105, 110, 103]) = true := (rec_l x).trans hw
          have HRO2 : Hid (refOk i (st, sp, ns.map fb, ms) [x, y, z] = (countOk (bl y) && countOk (bl z))) := by
           unfold Hid; rw [HRO.out]
           show (decide (3 = 3) && eqW wRec x && (countOk (bl y) && countOk (bl z))) = _
           rw [hw]; rfl
          clear HRO hw h3
          go_upto_region 16 with fail
          obtain ⟨c1, -⟩ := HC1.out w5 (Below.refl _ _)
          go_wp2_with fail
          refine (digitsR_any y _).mono ?_
          rintro e w6 ⟨rfl, hb6⟩
          have HRP6 := Lib.hid (HRP5.out.old hb6)
          obtain ⟨-, c2⟩ := HC1.out w6 hb6
          have HB6 := Lib.hid hb6
          clear HRP5 hb6 c0 c1
          unfold cntE
          go_wp2_with fail
          refine (digitsR_any z _).mono ?_
          rintro e w7 ⟨rfl, hb7⟩
          have HRP7 := Lib.hid (HRP6.out.old hb7)
          clear HRP6 hb7 c2
          unfold cntE
          obtain ⟨vy, hvy⟩ : ∃ vy, vy = countV (bl y) := ⟨_, rfl⟩
          obtain ⟨vz, hvz⟩ : ∃ vz, vz = countV (bl z) := ⟨_, rfl⟩
          obtain ⟨ky, hky⟩ : ∃ ky, ky = countOk (bl y) := ⟨_, rfl⟩
          obtain ⟨kz, hkz⟩ : ∃ kz, kz = countOk (bl z) := ⟨_, rfl⟩
          rw [← hvy, ← hvz, ← hky, ← hkz]
          rw [← hky, ← hkz] at HRO2
          have HVY := Lib.hid hvy; have HVZ := Lib.hid hvz
          clear hvy hvz hky hkz
          cases ky with
          | false =>
            have HF : Hid (refOk i (st, sp, ns.map fb, ms) [x, y, z] = false) := HRO2.out
            clear HRO2
            have hr9 : Row w7 w.heap.size 25 zero4 := HR1.out.below HRP7.out.below HLt.out
            have hb9 : Hid (Below w.heap.size w w7) := HB1.out.trans (HRP7.out.below.mono (by have := HLt.out; omega))
            have z0 := hr9.cell 0; have z1 := hr9.cell 1; have z2 := hr9.cell 2; have z3 := hr9.cell 3
            have f0 := hr9.free 0; have f1 := hr9.free 1; have f2 := hr9.free 2; have f3 := hr9.free 3
            have HR9 := Lib.hid hr9
            simp only [zero4, List.getElem?_cons_succ, List.getElem?_cons_zero] at z0 z1 z2 z3
            clear hr9
            go_wp2_with fail
            all_goals
             refine rp_out (w := w) i 25 ?_ ?_ ?_ HR9.out hb9.out ?_ (fun e w' h => rpQ_bad (S := S9) (by rw [HG2.out, HF.out]; rfl) h)
             · rfl
             · first | rfl | (rw [i3]; rfl)
             · rfl
             · rfl
          | true =>
            cases kz with
            | false =>
              have HF : Hid (refOk i (st, sp, ns.map fb, ms) [x, y, z] = false) := HRO2.out
              clear HRO2
              have hr9 : Row w7 w.heap.size 25 zero4 := HR1.out.below HRP7.out.below HLt.out
              have hb9 : Hid (Below w.heap.size w w7) := HB1.out.trans (HRP7.out.below.mono (by have := HLt.out; omega))
              have z0 := hr9.cell 0; have z1 := hr9.cell 1; have z2 := hr9.cell 2; have z3 := hr9.cell 3
              have f0 := hr9.free 0; have f1 := hr9.free 1; have f2 := hr9.free 2; have f3 := hr9.free 3
              have HR9 := Lib.hid hr9
              simp only [zero4, List.getElem?_cons_succ, List.getElem?_cons_zero] at z0 z1 z2 z3
              clear hr9
              go_wp2_with fail
              all_goals
               refine rp_out (w := w) i 25 ?_ ?_ ?_ HR9.out hb9.out ?_ (fun e w' h => rpQ_bad (S := S9) (by rw [HG2.out, HF.out]; rfl) h)
               · rfl
               · first | rfl | (rw [i3]; rfl)
               · rfl
               · rfl
            | true =>
              have HF : Hid (refOk i (st, sp, ns.map fb, ms) [x, y, z] = true) := HRO2.out
              clear HRO2
              have hrw := HRP7.out.row
              have q0 := hrw.cell 0; have q1 := hrw.cell 1
              have p0 := hrw.free 0; have p1 := hrw.free 1
              simp only [List.getElem?_cons_succ, List.getElem?_cons_zero] at q0 q1
              clear hrw
              go_wp2_with fail
              go_roundg (N - (i + 1))
              case measure => omega
              case rel =>
               refine ⟨i + 1, vy, vz, ns, ms, vm, by omega, by go_num, HRP7.out.head vy vz, ?_, by have := HL.out.1; omega, by have := HL.out.2.1; omega, HL.out.2.2⟩
               unfold Hid
               rw [HG2.out, HF.out, if_pos rfl]
               unfold refS
               rw [if_pos (by omega), HVY.out, HVZ.out]
               rfl
        · have e1 : (x.toList == [114, 101, 99, 111, 114, 100, 105, 110, 103]) = false := (rec_l x).trans (by simpa using hw)
          have HF : Hid (refOk i (st, sp, ns.map fb, ms) [x, y, z] = false) := by
           unfold Hid; rw [HRO.out]
           show (decide (3 = 3) && eqW wRec x && _) = _
           rw [show eqW wRec x = false by simpa using hw, Bool.and_false, Bool.false_and]
          clear HRO hw h3
          have hr9 : Row w5 w.heap.size 25 zero4 := HR1.out.below HRP5.out.below HLt.out
          have hb9 : Hid (Below w.heap.size w w5) := HB1.out.trans (HRP5.out.below.mono (by have := HLt.out; omega))
          have z0 := hr9.cell 0; have z1 := hr9.cell 1; have z2 := hr9.cell 2; have z3 := hr9.cell 3
          have f0 := hr9.free 0; have f1 := hr9.free 1; have f2 := hr9.free 2; have f3 := hr9.free 3
          have HR9 := Lib.hid hr9
          simp only [zero4, List.getElem?_cons_succ, List.getElem?_cons_zero] at z0 z1 z2 z3
          clear hr9
          go_wp2_with fail
          all_goals
           refine rp_out (w := w) i 25 ?_ ?_ ?_ HR9.out hb9.out ?_ (fun e w' h => rpQ_bad (S := S9) (by rw [HG2.out, HF.out]; rfl) h)
           · rfl
           · first | rfl | (rw [i3]; rfl)
           · rfl
           · rfl
      · have HF : Hid (refOk i (st, sp, ns.map fb, ms) ws = false) := by unfold Hid; rw [HRO.out, decide_eq_false h3, Bool.false_and, Bool.false_and]
        have i4 : ¬ (ws.length : Int) = 3 := by omega
        clear HRO
        have hr9 : Row w5 w.heap.size 25 zero4 := HR1.out.below HRP5.out.below HLt.out
        have hb9 : Hid (Below w.heap.size w w5) := HB1.out.trans (HRP5.out.below.mono (by have := HLt.out; omega))
        have z0 := hr9.cell 0; have z1 := hr9.cell 1; have z2 := hr9.cell 2; have z3 := hr9.cell 3
        have f0 := hr9.free 0; have f1 := hr9.free 1; have f2 := hr9.free 2; have f3 := hr9.free 3
        have HR9 := Lib.hid hr9
        simp only [zero4, List.getElem?_cons_succ, List.getElem?_cons_zero] at z0 z1 z2 z3
        clear hr9
        go_wp2_with fail
        all_goals
         refine rp_out (w := w) i 25 ?_ ?_ ?_ HR9.out hb9.out ?_ (fun e w' h => rpQ_bad (S := S9) (by rw [HG2.out, HF.out]; rfl) h)
         · rfl
         · first | rfl | (rw [i3]; rfl)
         · rfl
         · rfl
    · skip
      have hi3 : ¬ (i : Int) = 0 := by omega
      have HI0 := Lib.hid hi0
      have HRO : Hid (refOk i (st, sp, ns.map fb, ms) ws = if markR (st, sp, ns.map fb, ms) ws = true then countOk (headW ws.tail).data.toList else decide (ws.length = 2) && eqW wSamp (headW ws) && sampOk ws.tail) := by unfold Hid refOk; rw [if_neg hi0]
      obtain ⟨A8, c8, hu8, -⟩ := owned_slice HRP5.out.o8
      subst hu8
      clear hi0
      go_upto_region 21 with fail
      try rw [show ((i : Int) == 0) = false by simpa using hi3]
      obtain ⟨nw, hnw⟩ : ∃ nw, nw = ws.length := ⟨_, rfl⟩
      have HNW := Lib.hid hnw
      rw [← hnw]
      clear hnw
      go_cut [109] from 90 to 108 (fun s109 wx => s109 = .bool (markR (st, sp, ns.map fb, ms) ws) ∧ w5 = wx)
      case first =>
       by_cases h3 : nw = 3
       · obtain ⟨x, y, z, hxyz⟩ : ∃ x y z, ws = [x, y, z] := by
          match ws, (HNW.out.symm.trans h3) with
          | [x, y, z], _ => exact ⟨x, y, z, rfl⟩
         subst hxyz
         obtain ⟨b2, o2, hA2, c0⟩ := HA2.out.str (j := 0) (by simp)
         subst hA2
         obtain ⟨b', o', e, c2⟩ := HA2.out.str (j := 2) (by simp)
         cases e
         simp only [List.getElem_cons_zero, List.getElem_cons_succ, Nat.add_zero] at c0 c2
         have HM : Hid (markR (st, sp, ns.map fb, ms) [x, y, z] = (eqW wMark x && !z.toList.isEmpty && decide (ns.length = 0))) := by
          unfold Hid markR
          show (decide (3 = 3) && eqW wMark x && !z.toList.isEmpty && decide ((ns.map fb).length = 0)) = _
          rw [List.length_map]; rfl
         have e1 := mark_l x
         obtain ⟨zz, hzz⟩ : ∃ zz, zz = z.toList.isEmpty := ⟨_, rfl⟩
         rw [← hzz] at HM
         have e2 := hzz.symm
         have i4 : (nw : Int) = 3 := by omega
         clear hzz
         cases hw : eqW wMark x with
         | false =>
           rw [hw] at e1 HM
           clear hw
           go_wp2_with fail
           go_meet
           exact ⟨by rw [HM.out]; first | done | rfl, rfl⟩
         | true =>
           rw [hw] at e1 HM
           clear hw
           cases zz with
           | true =>
             go_wp2_with fail
             go_meet
             exact ⟨by rw [HM.out]; first | done | rfl, rfl⟩
           | false =>
             by_cases hn : ns.length = 0
             · have i5 : (ns.length : Int) = 0 := by omega
               go_wp2_with fail
               go_meet
               exact ⟨by rw [HM.out, decide_eq_true hn]; rfl, rfl⟩
             · have i5 : ¬ (ns.length : Int) = 0 := by omega
               go_wp2_with fail
               go_meet
               have e9 : ((ns.length : Int) == 0) = false := by simpa using hn
               exact ⟨by first | (rw [HM.out, decide_eq_false hn]; rfl) | (rw [HM.out, e9, decide_eq_false hn]; rfl), rfl⟩
       · have HM : Hid (markR (st, sp, ns.map fb, ms) ws = false) := by unfold Hid markR; rw [decide_eq_false (by rw [← HNW.out]; exact h3), Bool.false_and, Bool.false_and, Bool.false_and]
         have i4 : ¬ (nw : Int) = 3 := by omega
         go_wp2_with fail
         go_meet
         exact ⟨by rw [HM.out]; first | done | rfl, rfl⟩
      obtain ⟨rfl, hwx⟩ := hcut
      subst hwx
      cases hm : markR (st, sp, ns.map fb, ms) ws with
      | true =>
        have hm2 := hm
        unfold markR at hm2
        simp only [Bool.and_eq_true, decide_eq_true_eq] at hm2
        obtain ⟨⟨⟨h3, -⟩, -⟩, hn0⟩ := hm2
        have HRO2 : Hid (refOk i (st, sp, ns.map fb, ms) ws = countOk (headW ws.tail).data.toList) := by unfold Hid; rw [HRO.out, hm, if_pos rfl]
        have HMR := Lib.hid hm
        have i4 : (nw : Int) = 3 := by rw [HNW.out, h3]; rfl
        have HN0 : Hid (ns = []) := List.length_eq_zero_iff.1 (by simpa using hn0)
        obtain ⟨x, y, z, hxyz⟩ : ∃ x y z, ws = [x, y, z] := by
         match ws, h3 with
         | [x, y, z], _ => exact ⟨x, y, z, rfl⟩
        subst hxyz
        obtain ⟨b2, o2, hA2, c1⟩ := HA2.out.str (j := 1) (by simp)
        subst hA2
        have HC2 : Hid (∀ V, Below w5.heap.size w5 V → V.cell? ⟨b2, o2 + 2, none⟩ = some (.string z)) := fun V hV => by
         obtain ⟨b', o', e, h'⟩ := (HA2.out.below hV).str (j := 2) (by simp)
         cases e
         exact h'
        simp only [List.getElem_cons_zero, List.getElem_cons_succ] at c1
        have HRO4 : Hid (refOk i (st, sp, ns.map fb, ms) [x, y, z] = countOk (bl y)) := HRO2.out
        clear hm hn0 h3 HRO HRO2
        go_wp2_with fail
        refine (digitsR_any y _).mono ?_
        rintro e w6 ⟨rfl, hb6⟩
        have HRP6 := Lib.hid (HRP5.out.old hb6)
        have HC6 : Hid (w6.cell? ⟨b2, o2 + 2, none⟩ = some (.string z)) := HC2.out w6 hb6
        have HCL : Hid (b2 < w5.heap.size) := World.block_lt_of_cell? _ _ (HC2.out w5 (Below.refl _ _))
        clear HRP5 hb6 c1 HC2
        unfold cntE
        obtain ⟨vy, hvy⟩ : ∃ vy, vy = countV (bl y) := ⟨_, rfl⟩
        obtain ⟨ky, hky⟩ : ∃ ky, ky = countOk (bl y) := ⟨_, rfl⟩
        rw [← hvy, ← hky]
        rw [← hky] at HRO4
        have HVY := Lib.hid hvy
        clear hvy hky
        cases ky with
        | false =>
          have HF : Hid (refOk i (st, sp, ns.map fb, ms) [x, y, z] = false) := HRO4.out
          clear HRO4
          have hr9 : Row w6 w.heap.size 25 zero4 := HR1.out.below HRP6.out.below HLt.out
          have hb9 : Hid (Below w.heap.size w w6) := HB1.out.trans (HRP6.out.below.mono (by have := HLt.out; omega))
          have z0 := hr9.cell 0; have z1 := hr9.cell 1; have z2 := hr9.cell 2; have z3 := hr9.cell 3
          have f0 := hr9.free 0; have f1 := hr9.free 1; have f2 := hr9.free 2; have f3 := hr9.free 3
          have HR9 := Lib.hid hr9
          simp only [zero4, List.getElem?_cons_succ, List.getElem?_cons_zero] at z0 z1 z2 z3
          clear hr9
          go_wp2_with fail
          all_goals
           refine rp_out (w := w) i 25 ?_ ?_ ?_ HR9.out hb9.out ?_ (fun e w' h => rpQ_bad (S := S9) (by rw [HG2.out, HF.out]; rfl) h)
           · rfl
           · rfl
           · rfl
           · rfl
        | true =>
          have HF : Hid (refOk i (st, sp, ns.map fb, ms) [x, y, z] = true) := HRO4.out
          clear HRO4
          go_upto_region 25 with fail
          refine genR (fun V => Hid (RpI w1 st sp ns ms (.slice A8 ns.length c8) vm V) ∧ Hid (V.cell? ⟨b2, o2 + 2, none⟩ = some (.string z))) ⟨HRP6, HC6⟩ ?_
          clear HRP6 HC6 HCL
          rintro wq ⟨HRP6, HC6⟩
          have HB1 : Hid (w1.heap.size + 1 ≤ wq.heap.size) := HRP6.out.room
          have NE6 : Hid (some w1.heap.size ≠ vm.ownBlock) := own_nb HRP6.out.om (by omega)
          have hml : ms.length ≤ 1000000 := by have := HL.out.2.1; omega
          refine wp_region_held_drew (S := fun _ => True) (by kernel_rfl) ?_ (fun hHeld => ?_)
          · trivial
          refine VD (i := 0) (oi := ⟨some 121, _, _, _, _, _⟩) (v := ?_) rfl (by kernel_rfl) (by kernel_rfl) (by kernel_rfl) (fun _ _ _ h => h) (Or.inl ⟨by kernel_rfl, ?_⟩) hHeld ?_
          rotate_left
          · intro w1 hSw; (try dsimp only at hSw); go_simp <;> with_reducible rfl
          try simp only [Act.put, VA, VB, VC]
          refine VD (i := 2) (oi := ⟨some 123, _, _, _, _, _⟩) (v := ?_) rfl (by kernel_rfl) (by kernel_rfl) (by kernel_rfl) (fun _ _ _ h => h) (Or.inl ⟨by kernel_rfl, ?_⟩) hHeld ?_
          rotate_left
          · intro w1 hSw; (try dsimp only at hSw); go_simp <;> with_reducible rfl
          try simp only [Act.put, VA, VB, VC]
          refine VD (i := 3) (oi := ⟨some 124, _, _, _, _, _⟩) (v := ?_) rfl (by kernel_rfl) (by kernel_rfl) (by kernel_rfl) (fun _ _ _ h => h) (Or.inl ⟨by kernel_rfl, ?_⟩) hHeld ?_
          rotate_left
          · intro w1 hSw; (try dsimp only at hSw); go_simp <;> with_reducible rfl
          try simp only [Act.put, VA, VB, VC]
          refine VD (i := 4) (oi := ⟨some 125, _, _, _, _, _⟩) (v := ?_) rfl (by kernel_rfl) (by kernel_rfl) (by kernel_rfl) (fun _ _ _ h => h) (Or.inl ⟨by kernel_rfl, ?_⟩) hHeld ?_
          rotate_left
          · intro w1 hSw; (try dsimp only at hSw); go_simp <;> with_reducible rfl
          try simp only [Act.put, VA, VB, VC]
          refine VG (rs := [1, 5]) (by kernel_rfl) (by simp) ?_
          refine VE rfl (fun K hK => ?_) (VE rfl (fun K hK => ?_) (VF))
          ·
           have z2 : (wq.drew).cell? ⟨w1.heap.size, 3, none⟩ = some vm := HRP6.out.row.cell 3
           go_simp
           refine hK.out _ _ ?_ (fun hHeld => ?_)
           · trivial
           clear hK K
           try simp only [Act.put, VA, VB, VC]
           refine VG (rs := [5]) (by kernel_rfl) (by simp) ?_
           refine VE rfl (fun K hK => ?_) (VF)
           have z5 : (wq.drew).cell? ⟨b2, o2 + 2, none⟩ = some (.string z) := HC6.out
           go_simp
           refine hK.out _ _ ?_ (fun hHeld => ?_)
           · trivial
           clear hK K
           try simp only [Act.put, VA, VB, VC]
           refine VD (i := 6) (oi := ⟨some 127, _, _, _, _, _⟩) (v := ?_) rfl (by kernel_rfl) (by kernel_rfl) (by kernel_rfl) (fun _ _ _ h => h) (Or.inl ⟨by kernel_rfl, ?_⟩) hHeld ?_
           rotate_left
           · intro w1 hSw; (try dsimp only at hSw); go_simp <;> with_reducible rfl
           try simp only [Act.put, VA, VB, VC]
           refine VG (rs := [7]) (by kernel_rfl) (by simp) ?_
           refine VE rfl (fun K hK => ?_) (VF)
           go_simp
           refine hK.out _ _ ?_ (fun hHeld => ?_)
           · trivial
           clear hK K
           try simp only [Act.put, VA, VB, VC]
           refine VG (rs := [8]) (by kernel_rfl) (by simp) ?_
           refine VE rfl (fun K hK => ?_) (VF)
           refine step_app rfl (.tmp 122) (.tmp 128) 23 rfl (w1.heap.size + 1) 90 (.agg #[.int .i64 0, .string ⟨#[]⟩]) 2 24 Tryz.underlying23 info185 rfl (by decide) vm ms.length (markC ms) (by simp [Act.eval, Act.put]) (owns_below HRP6.out.om ((Below.refl wq.heap.size wq).drew.alloc (Nat.le_refl _) (.cells #[Value.int .i64 vy, Value.string z] 90))) wq.heap.size 1 1 [.int .i64 vy, .string z] (by simp [Act.eval, Act.put]) 90 (Row.new wq.drew 90 [.int .i64 vy, .string z]) rfl (by simp [Value.oneCell']) (by unfold maxLen; omega) (by omega) (by have := HB1.out; simp; omega) ?_
           intro v5 w5 ho5 hg5
           obtain ⟨A5, c5, rfl, -⟩ := owned_slice ho5
           refine hK.out _ _ ?_ (fun hHeld => ?_)
           · trivial
           clear hK K
           try simp only [Act.put, VA, VB, VC]
           refine VD (i := 9) (oi := ⟨some 130, _, _, _, _, _⟩) (v := ?_) rfl (by kernel_rfl) (by kernel_rfl) (by kernel_rfl) (fun _ _ _ h => h) (Or.inl ⟨by kernel_rfl, ?_⟩) hHeld ?_
           rotate_left
           · intro w1 hSw; (try dsimp only at hSw); go_simp <;> with_reducible rfl
           try simp only [Act.put, VA, VB, VC]
           refine VG (rs := [10]) (by kernel_rfl) (by simp) ?_
           refine VE rfl (fun K hK => ?_) (VF)
           have z7 : Row w5 w1.heap.size 25 [.int .i64 st, .int .i64 sp, .slice none 0 0, vm] := Row.grown (w := (wq.drew.alloc (.cells #[Value.int .i64 vy, Value.string z] 90))) (HRP6.out.row.old ((Below.refl wq.heap.size wq).drew.alloc (Nat.le_refl _) (.cells #[Value.int .i64 vy, Value.string z] 90))) hg5 NE6.out
           have m3 := z7.cell 3
           have mf := z7.free 3
           simp only [List.getElem?_cons_succ, List.getElem?_cons_zero] at m3
           go_simp
           refine hK.out _ _ ?_ (fun hHeld => ?_)
           · trivial
           clear hK K
           try simp only [Act.put, VA, VB, VC]
           refine wpAnyH_done (by kernel_rfl) ?_ _
           have HRP7 : Hid (RpI w1 st sp ns (ms ++ [(vy, z)]) (.slice A8 ns.length c8) (.slice A5 (ms.length + 1) c5) (w5.setCell ⟨w1.heap.size, 3, none⟩ (.slice A5 (ms.length + 1) c5))) := HRP6.out.drew.mark hg5 (by rw [markC_app]; exact ho5)
           clear hHeld hg5 ho5 HRP6
           go_wp2_with fail
           go_roundg (N - (i + 1))
           case measure => omega
           case rel =>
            refine ⟨i + 1, st, sp, ns, ms ++ [(vy, z)], (.slice A5 (ms.length + 1) c5), by omega, by go_num, HRP7.out, ?_, by have := HL.out.1; omega, by rw [List.length_append]; have := HL.out.2.1; simp; omega, HL.out.2.2⟩
            unfold Hid
            rw [HG2.out, HF.out, if_pos rfl]
            unfold refS
            rw [if_neg HI0.out, HMR.out, if_pos rfl]
            unfold markS
            rw [HVY.out]
            rfl
          ·
           have z5 : (wq.drew).cell? ⟨b2, o2 + 2, none⟩ = some (.string z) := HC6.out
           go_simp
           refine hK.out _ _ ?_ (fun hHeld => ?_)
           · trivial
           clear hK K
           try simp only [Act.put, VA, VB, VC]
           refine VD (i := 6) (oi := ⟨some 127, _, _, _, _, _⟩) (v := ?_) rfl (by kernel_rfl) (by kernel_rfl) (by kernel_rfl) (fun _ _ _ h => h) (Or.inl ⟨by kernel_rfl, ?_⟩) hHeld ?_
           rotate_left
           · intro w1 hSw; (try dsimp only at hSw); go_simp <;> with_reducible rfl
           try simp only [Act.put, VA, VB, VC]
           refine VG (rs := [1, 7]) (by kernel_rfl) (by simp) ?_
           refine VE rfl (fun K hK => ?_) (VE rfl (fun K hK => ?_) (VF))
           ·
            have z2 : (wq.drew).cell? ⟨w1.heap.size, 3, none⟩ = some vm := HRP6.out.row.cell 3
            go_simp
            refine hK.out _ _ ?_ (fun hHeld => ?_)
            · trivial
            clear hK K
            try simp only [Act.put, VA, VB, VC]
            refine VG (rs := [7]) (by kernel_rfl) (by simp) ?_
            refine VE rfl (fun K hK => ?_) (VF)
            go_simp
            refine hK.out _ _ ?_ (fun hHeld => ?_)
            · trivial
            clear hK K
            try simp only [Act.put, VA, VB, VC]
            refine VG (rs := [8]) (by kernel_rfl) (by simp) ?_
            refine VE rfl (fun K hK => ?_) (VF)
            refine step_app rfl (.tmp 122) (.tmp 128) 23 rfl (w1.heap.size + 1) 90 (.agg #[.int .i64 0, .string ⟨#[]⟩]) 2 24 Tryz.underlying23 info185 rfl (by decide) vm ms.length (markC ms) (by simp [Act.eval, Act.put]) (owns_below HRP6.out.om ((Below.refl wq.heap.size wq).drew.alloc (Nat.le_refl _) (.cells #[Value.int .i64 vy, Value.string z] 90))) wq.heap.size 1 1 [.int .i64 vy, .string z] (by simp [Act.eval, Act.put]) 90 (Row.new wq.drew 90 [.int .i64 vy, .string z]) rfl (by simp [Value.oneCell']) (by unfold maxLen; omega) (by omega) (by have := HB1.out; simp; omega) ?_
            intro v5 w5 ho5 hg5
            obtain ⟨A5, c5, rfl, -⟩ := owned_slice ho5
            refine hK.out _ _ ?_ (fun hHeld => ?_)
            · trivial
            clear hK K
            try simp only [Act.put, VA, VB, VC]
            refine VD (i := 9) (oi := ⟨some 130, _, _, _, _, _⟩) (v := ?_) rfl (by kernel_rfl) (by kernel_rfl) (by kernel_rfl) (fun _ _ _ h => h) (Or.inl ⟨by kernel_rfl, ?_⟩) hHeld ?_
            rotate_left
            · intro w1 hSw; (try dsimp only at hSw); go_simp <;> with_reducible rfl
            try simp only [Act.put, VA, VB, VC]
            refine VG (rs := [10]) (by kernel_rfl) (by simp) ?_
            refine VE rfl (fun K hK => ?_) (VF)
            have z7 : Row w5 w1.heap.size 25 [.int .i64 st, .int .i64 sp, .slice none 0 0, vm] := Row.grown (w := (wq.drew.alloc (.cells #[Value.int .i64 vy, Value.string z] 90))) (HRP6.out.row.old ((Below.refl wq.heap.size wq).drew.alloc (Nat.le_refl _) (.cells #[Value.int .i64 vy, Value.string z] 90))) hg5 NE6.out
            have m3 := z7.cell 3
            have mf := z7.free 3
            simp only [List.getElem?_cons_succ, List.getElem?_cons_zero] at m3
            go_simp
            refine hK.out _ _ ?_ (fun hHeld => ?_)
            · trivial
            clear hK K
            try simp only [Act.put, VA, VB, VC]
            refine wpAnyH_done (by kernel_rfl) ?_ _
            have HRP7 : Hid (RpI w1 st sp ns (ms ++ [(vy, z)]) (.slice A8 ns.length c8) (.slice A5 (ms.length + 1) c5) (w5.setCell ⟨w1.heap.size, 3, none⟩ (.slice A5 (ms.length + 1) c5))) := HRP6.out.drew.mark hg5 (by rw [markC_app]; exact ho5)
            clear hHeld hg5 ho5 HRP6
            go_wp2_with fail
            go_roundg (N - (i + 1))
            case measure => omega
            case rel =>
             refine ⟨i + 1, st, sp, ns, ms ++ [(vy, z)], (.slice A5 (ms.length + 1) c5), by omega, by go_num, HRP7.out, ?_, by have := HL.out.1; omega, by rw [List.length_append]; have := HL.out.2.1; simp; omega, HL.out.2.2⟩
             unfold Hid
             rw [HG2.out, HF.out, if_pos rfl]
             unfold refS
             rw [if_neg HI0.out, HMR.out, if_pos rfl]
             unfold markS
             rw [HVY.out]
             rfl
           ·
            go_simp
            refine hK.out _ _ ?_ (fun hHeld => ?_)
            · trivial
            clear hK K
            try simp only [Act.put, VA, VB, VC]
            refine VG (rs := [1]) (by kernel_rfl) (by simp) ?_
            refine VE rfl (fun K hK => ?_) (VF)
            have z2 : (wq.alloc (.cells #[Value.int .i64 vy, Value.string z] 90)).drew.cell? ⟨w1.heap.size, 3, none⟩ = some vm := keepC (W := wq) (HRP6.out.row.cell 3) ((Below.refl _ wq).alloc (Nat.le_refl _) (.cells #[Value.int .i64 vy, Value.string z] 90)).drew
            go_simp
            refine hK.out _ _ ?_ (fun hHeld => ?_)
            · trivial
            clear hK K
            try simp only [Act.put, VA, VB, VC]
            refine VG (rs := [8]) (by kernel_rfl) (by simp) ?_
            refine VE rfl (fun K hK => ?_) (VF)
            refine step_app rfl (.tmp 122) (.tmp 128) 23 rfl (w1.heap.size + 1) 90 (.agg #[.int .i64 0, .string ⟨#[]⟩]) 2 24 Tryz.underlying23 info185 rfl (by decide) vm ms.length (markC ms) (by simp [Act.eval, Act.put]) (owns_below HRP6.out.om ((Below.refl wq.heap.size wq).drew.alloc (Nat.le_refl _) (.cells #[Value.int .i64 vy, Value.string z] 90))) wq.heap.size 1 1 [.int .i64 vy, .string z] (by simp [Act.eval, Act.put]) 90 (Row.new wq.drew 90 [.int .i64 vy, .string z]) rfl (by simp [Value.oneCell']) (by unfold maxLen; omega) (by omega) (by have := HB1.out; simp; omega) ?_
            intro v5 w5 ho5 hg5
            obtain ⟨A5, c5, rfl, -⟩ := owned_slice ho5
            refine hK.out _ _ ?_ (fun hHeld => ?_)
            · trivial
            clear hK K
            try simp only [Act.put, VA, VB, VC]
            refine VD (i := 9) (oi := ⟨some 130, _, _, _, _, _⟩) (v := ?_) rfl (by kernel_rfl) (by kernel_rfl) (by kernel_rfl) (fun _ _ _ h => h) (Or.inl ⟨by kernel_rfl, ?_⟩) hHeld ?_
            rotate_left
            · intro w1 hSw; (try dsimp only at hSw); go_simp <;> with_reducible rfl
            try simp only [Act.put, VA, VB, VC]
            refine VG (rs := [10]) (by kernel_rfl) (by simp) ?_
            refine VE rfl (fun K hK => ?_) (VF)
            have z7 : Row w5 w1.heap.size 25 [.int .i64 st, .int .i64 sp, .slice none 0 0, vm] := Row.grown (w := (wq.drew.alloc (.cells #[Value.int .i64 vy, Value.string z] 90))) (HRP6.out.row.old ((Below.refl wq.heap.size wq).drew.alloc (Nat.le_refl _) (.cells #[Value.int .i64 vy, Value.string z] 90))) hg5 NE6.out
            have m3 := z7.cell 3
            have mf := z7.free 3
            simp only [List.getElem?_cons_succ, List.getElem?_cons_zero] at m3
            go_simp
            refine hK.out _ _ ?_ (fun hHeld => ?_)
            · trivial
            clear hK K
            try simp only [Act.put, VA, VB, VC]
            refine wpAnyH_done (by kernel_rfl) ?_ _
            have HRP7 : Hid (RpI w1 st sp ns (ms ++ [(vy, z)]) (.slice A8 ns.length c8) (.slice A5 (ms.length + 1) c5) (w5.setCell ⟨w1.heap.size, 3, none⟩ (.slice A5 (ms.length + 1) c5))) := HRP6.out.drew.mark hg5 (by rw [markC_app]; exact ho5)
            clear hHeld hg5 ho5 HRP6
            go_wp2_with fail
            go_roundg (N - (i + 1))
            case measure => omega
            case rel =>
             refine ⟨i + 1, st, sp, ns, ms ++ [(vy, z)], (.slice A5 (ms.length + 1) c5), by omega, by go_num, HRP7.out, ?_, by have := HL.out.1; omega, by rw [List.length_append]; have := HL.out.2.1; simp; omega, HL.out.2.2⟩
             unfold Hid
             rw [HG2.out, HF.out, if_pos rfl]
             unfold refS
             rw [if_neg HI0.out, HMR.out, if_pos rfl]
             unfold markS
             rw [HVY.out]
             rfl
      | false =>
        have HRO2 : Hid (refOk i (st, sp, ns.map fb, ms) ws = (decide (ws.length = 2) && eqW wSamp (headW ws) && sampOk ws.tail)) := by unfold Hid; rw [HRO.out, hm, if_neg (by simp)]
        have HMR := Lib.hid hm
        clear hm HRO
        go_upto_region 26 with fail
        by_cases h2 : nw = 2
        · obtain ⟨x, y, hxy⟩ : ∃ x y, ws = [x, y] := by
           match ws, (HNW.out.symm.trans h2) with
           | [x, y], _ => exact ⟨x, y, rfl⟩
          subst hxy
          obtain ⟨b2, o2, hA2, c0⟩ := HA2.out.str (j := 0) (by simp)
          subst hA2
          obtain ⟨b', o', e, c1⟩ := HA2.out.str (j := 1) (by simp)
          cases e
          simp only [List.getElem_cons_zero, List.getElem_cons_succ, Nat.add_zero] at c0 c1
          have HRO3 : Hid (refOk i (st, sp, ns.map fb, ms) [x, y] = (eqW wSamp x && intOk (bl y))) := HRO2.out
          have e1 := samp_l x
          have i4 : (nw : Int) = 2 := by omega
          clear HRO2
          cases hw : eqW wSamp x with
          | false =>
            rw [hw] at e1
            have HF : Hid (refOk i (st, sp, ns.map fb, ms) [x, y] = false) := by unfold Hid; rw [HRO3.out, hw]; rfl
            clear HRO3 hw
            have hr9 : Row w5 w.heap.size 25 zero4 := HR1.out.below HRP5.out.below HLt.out
            have hb9 : Hid (Below w.heap.size w w5) := HB1.out.trans (HRP5.out.below.mono (by have := HLt.out; omega))
            have z0 := hr9.cell 0; have z1 := hr9.cell 1; have z2 := hr9.cell 2; have z3 := hr9.cell 3
            have f0 := hr9.free 0; have f1 := hr9.free 1; have f2 := hr9.free 2; have f3 := hr9.free 3
            have HR9 := Lib.hid hr9
            simp only [zero4, List.getElem?_cons_succ, List.getElem?_cons_zero] at z0 z1 z2 z3
            clear hr9
            go_wp2_with fail
            all_goals
             refine rp_out (w := w) i 25 ?_ ?_ ?_ HR9.out hb9.out ?_ (fun e w' h => rpQ_bad (S := S9) (by rw [HG2.out, HF.out]; rfl) h)
             · rfl
             · rfl
             · rfl
             · rfl
          | true =>
            rw [hw] at e1
            have HRO4 : Hid (refOk i (st, sp, ns.map fb, ms) [x, y] = intOk (bl y)) := by unfold Hid; rw [HRO3.out, hw]; rfl
            clear HRO3 hw
            go_wp2_with fail
            refine (signedR_all y _).mono ?_
            rintro e w6 ⟨rfl, hb6⟩
            have HRP6 := Lib.hid (HRP5.out.old hb6)
            clear HRP5 hb6 c0 c1
            unfold sgnE
            obtain ⟨vy, hvy⟩ : ∃ vy, vy = intV (bl y) := ⟨_, rfl⟩
            obtain ⟨ky, hky⟩ : ∃ ky, ky = intOk (bl y) := ⟨_, rfl⟩
            rw [← hvy, ← hky]
            rw [← hky] at HRO4
            have HVY := Lib.hid hvy
            clear hvy hky
            cases ky with
            | false =>
              have HF : Hid (refOk i (st, sp, ns.map fb, ms) [x, y] = false) := HRO4.out
              clear HRO4
              have hr9 : Row w6 w.heap.size 25 zero4 := HR1.out.below HRP6.out.below HLt.out
              have hb9 : Hid (Below w.heap.size w w6) := HB1.out.trans (HRP6.out.below.mono (by have := HLt.out; omega))
              have z0 := hr9.cell 0; have z1 := hr9.cell 1; have z2 := hr9.cell 2; have z3 := hr9.cell 3
              have f0 := hr9.free 0; have f1 := hr9.free 1; have f2 := hr9.free 2; have f3 := hr9.free 3
              have HR9 := Lib.hid hr9
              simp only [zero4, List.getElem?_cons_succ, List.getElem?_cons_zero] at z0 z1 z2 z3
              clear hr9
              go_wp2_with fail
              all_goals
               refine rp_out (w := w) i 25 ?_ ?_ ?_ HR9.out hb9.out ?_ (fun e w' h => rpQ_bad (S := S9) (by rw [HG2.out, HF.out]; rfl) h)
               · rfl
               · rfl
               · rfl
               · rfl
            | true =>
              have HF : Hid (refOk i (st, sp, ns.map fb, ms) [x, y] = true) := HRO4.out
              clear HRO4
              obtain ⟨iI, hI, hI0, hI1, hI2⟩ := info_parts info3
              have HL1 := HL.out.1
              have hrm := HRP6.out.room
              go_wp2_with (at_builtin; refine wpList_append_own_at _ rfl _ _ 92 rfl (w1.heap.size + 1) 3 iI (.int .i64 0) 1 8 Tryz.underlying92 hI hI0 hI1 hI2 rfl (by decide) _ _ (ints ns) rfl (HRP6.out.o8.alloc _) ⟨w6.heap.size, 0, none⟩ 1 1 [.int .i64 vy] rfl rfl (news1 _ _ _ _ rfl) ?c2 ?c3 ?c4 ?c5 ?_)
              case c2 => simp [Value.oneCell']
              case c3 => unfold maxLen; omega
              case c4 => omega
              case c5 => simp; omega
              all_goals
               intro v' w7 hown' hgrow _ _
               have HRP7 := Lib.hid (HRP6.out.unit hgrow hown')
               clear hown' hgrow HRP6
               go_wp2_with fail
               go_roundg (N - (i + 1))
               case measure => omega
               case rel =>
                refine ⟨i + 1, st, sp, ns ++ [vy], ms, vm, by omega, by go_num, HRP7.out, ?_, by rw [List.length_append]; have := HL.out.1; simp; omega, by have := HL.out.2.1; omega, ?_⟩
                · unfold Hid
                  rw [HG2.out, HF.out, if_pos rfl]
                  unfold refS
                  rw [if_neg HI0.out, HMR.out, if_neg (by simp), HVY.out]
                  unfold sampS
                  rw [List.map_append]
                  rfl
                · intro n hn
                  rcases List.mem_append.1 hn with h | h
                  · exact HL.out.2.2 n h
                  · rw [List.mem_singleton.1 h, HVY.out]
                    have := intV_bd (bl y)
                    omega
        · have HF : Hid (refOk i (st, sp, ns.map fb, ms) ws = false) := by unfold Hid; rw [HRO2.out, decide_eq_false (by rw [← HNW.out]; exact h2), Bool.false_and, Bool.false_and]
          have i4 : ¬ (nw : Int) = 2 := by omega
          clear HRO2
          have hr9 : Row w5 w.heap.size 25 zero4 := HR1.out.below HRP5.out.below HLt.out
          have hb9 : Hid (Below w.heap.size w w5) := HB1.out.trans (HRP5.out.below.mono (by have := HLt.out; omega))
          have z0 := hr9.cell 0; have z1 := hr9.cell 1; have z2 := hr9.cell 2; have z3 := hr9.cell 3
          have f0 := hr9.free 0; have f1 := hr9.free 1; have f2 := hr9.free 2; have f3 := hr9.free 3
          have HR9 := Lib.hid hr9
          simp only [zero4, List.getElem?_cons_succ, List.getElem?_cons_zero] at z0 z1 z2 z3
          clear hr9
          go_wp2_with fail
          all_goals
           refine rp_out (w := w) i 25 ?_ ?_ ?_ HR9.out hb9.out ?_ (fun e w' h => rpQ_bad (S := S9) (by rw [HG2.out, HF.out]; rfl) h)
           · rfl
           · rfl
           · rfl
           · rfl
  · obtain rfl : i = N := by omega
    have c0 := HCN.out wr HRP.out.below
    have HG3 : Hid (G = (i, decide (a = []), (st, sp, ns.map fb, ms))) := by
     unfold Hid
     rw [HG.out, List.drop_of_length_le (by have := HN.out; omega), List.map_nil, List.nil_append, HTL.out]
     exact last_ref hna.out _ _
    clear HG
    go_upto_region 32 with fail
    by_cases ha : a = []
    · have e0 : (lb a).toList.isEmpty = true := by rw [lb_toL, ha]; rfl
      have HI0 : Hid (i ≠ 0) := fun h => HNE.out ⟨h, ha⟩
      have HG4 : Hid (G = (i, true, (st, sp, ns.map fb, ms))) := by unfold Hid; rw [HG3.out, decide_eq_true ha]
      clear HG3 ha
      obtain ⟨A8, c8, hu8, -⟩ := owned_slice HRP.out.o8
      subst hu8
      obtain ⟨EK, hEK⟩ : ∃ EK, EK = firstI [whenI (rangeB st 0 100000000) 3, whenI (rangeB sp 1 1000) 3, whenI (decide (4096 < (ns.length : Int))) 5] := ⟨_, rfl⟩
      have HE1 := Lib.hid hEK
      clear hEK
      go_upto_region 34 with fail
      refine wp_region_held_drew (S := fun w' => w'.cell? ⟨w1.heap.size, 0, none⟩ = some (.int .i64 st) ∧ w'.cell? ⟨w1.heap.size, 1, none⟩ = some (.int .i64 sp) ∧ Below wr.heap.size wr w') (by kernel_rfl) ?_ (fun hHeld => ?_)
      · exact ⟨(HRP.out.row.cell 0), (HRP.out.row.cell 1), (Below.refl _ _).drew⟩
      refine VD (i := 0) (oi := ⟨some 164, _, _, _, _, _⟩) (v := ?_) rfl (by kernel_rfl) (by kernel_rfl) (by kernel_rfl) (fun _ _ _ h => h) (Or.inl ⟨by kernel_rfl, ?_⟩) hHeld ?_
      rotate_left
      · intro w1 hSw; (try dsimp only at hSw); go_simp <;> with_reducible rfl
      try simp only [Act.put, VA, VB, VC]
      refine VD (i := 1) (oi := ⟨some 165, _, _, _, _, _⟩) (v := ?_) rfl (by kernel_rfl) (by kernel_rfl) (by kernel_rfl) (fun _ _ _ h => h) (Or.inl ⟨by kernel_rfl, ?_⟩) hHeld ?_
      rotate_left
      · intro w1 hSw; (try dsimp only at hSw); go_simp <;> with_reducible rfl
      try simp only [Act.put, VA, VB, VC]
      refine VD (i := 3) (oi := ⟨some 167, _, _, _, _, _⟩) (v := ?_) rfl (by kernel_rfl) (by kernel_rfl) (by kernel_rfl) (fun _ _ _ h => h) (Or.inl ⟨by kernel_rfl, ?_⟩) hHeld ?_
      rotate_left
      · intro w1 hSw; (try dsimp only at hSw); go_simp <;> with_reducible rfl
      try simp only [Act.put, VA, VB, VC]
      refine VD (i := 4) (oi := ⟨some 168, _, _, _, _, _⟩) (v := ?_) rfl (by kernel_rfl) (by kernel_rfl) (by kernel_rfl) (fun _ _ _ h => h) (Or.inl ⟨by kernel_rfl, ?_⟩) hHeld ?_
      rotate_left
      · intro w1 hSw; (try dsimp only at hSw); go_simp <;> with_reducible rfl
      try simp only [Act.put, VA, VB, VC]
      refine VD (i := 6) (oi := ⟨some 170, _, _, _, _, _⟩) (v := ?_) rfl (by kernel_rfl) (by kernel_rfl) (by kernel_rfl) (fun _ _ _ h => h) (Or.inl ⟨by kernel_rfl, ?_⟩) hHeld ?_
      rotate_left
      · intro w1 hSw; (try dsimp only at hSw); go_simp <;> with_reducible rfl
      try simp only [Act.put, VA, VB, VC]
      refine VD (i := 7) (oi := ⟨some 171, _, _, _, _, _⟩) (v := ?_) rfl (by kernel_rfl) (by kernel_rfl) (by kernel_rfl) (fun _ _ _ h => h) (Or.inl ⟨by kernel_rfl, ?_⟩) hHeld ?_
      rotate_left
      · intro w1 hSw; (try dsimp only at hSw); go_simp <;> with_reducible rfl
      try simp only [Act.put, VA, VB, VC]
      refine VD (i := 8) (oi := ⟨some 172, _, _, _, _, _⟩) (v := ?_) rfl (by kernel_rfl) (by kernel_rfl) (by kernel_rfl) (fun _ _ _ h => h) (Or.inl ⟨by kernel_rfl, ?_⟩) hHeld ?_
      rotate_left
      · intro w1 hSw; (try dsimp only at hSw); go_simp <;> with_reducible rfl
      try simp only [Act.put, VA, VB, VC]
      refine VG (rs := [2]) (by kernel_rfl) (by simp) ?_
      refine VE rfl (fun K hK => ?_) VF
      go_simp
      go_at_call 57
      refine (checkTick_any _ _).mono ?_
      rintro e wq ⟨rfl, rfl⟩
      try go_simp
      refine hK.out _ _ ?_ (fun hHeld => ?_)
      · exact hHeld
      clear hK K
      try simp only [Act.put, VA, VB, VC]
      refine VG (rs := [5]) (by kernel_rfl) (by simp) ?_
      refine VE rfl (fun K hK => ?_) VF
      go_simp
      go_at_call 58
      refine (checkRange_any _ _ _ _).mono ?_
      rintro e wq ⟨rfl, rfl⟩
      try go_simp
      refine hK.out _ _ ?_ (fun hHeld => ?_)
      · exact hHeld
      clear hK K
      try simp only [Act.put, VA, VB, VC]
      refine VG (rs := [9]) (by kernel_rfl) (by simp) ?_
      refine VE rfl (fun K hK => ?_) VF
      go_simp
      go_at_call 60
      refine (when_any _ _ _).mono ?_
      rintro e wq ⟨rfl, rfl⟩
      try go_simp
      refine hK.out _ _ ?_ (fun hHeld => ?_)
      · exact hHeld
      clear hK K
      try simp only [Act.put, VA, VB, VC]
      refine VG (rs := [10]) (by kernel_rfl) (by simp) ?_
      refine VE rfl (fun K hK => ?_) VF
      go_simp
      refine hK.out _ _ ?_ (fun hHeld => ?_)
      · exact ⟨keepC hHeld.1 ((Below.refl _ _).alloc (Nat.le_refl _) _), keepC hHeld.2.1 ((Below.refl _ _).alloc (Nat.le_refl _) _), hHeld.2.2.trans ((((Below.refl _ _).alloc (Nat.le_refl _) _)).mono hHeld.2.2.size)⟩
      clear hK K
      try simp only [Act.put, VA, VB, VC]
      refine VG (rs := [11]) (by kernel_rfl) (by simp) ?_
      refine VE rfl (fun K hK => ?_) VF
      go_simp
      go_at_call 56
      refine (first_any _ _ _ [whenI (rangeB st 0 100000000) 3, whenI (rangeB sp 1 1000) 3, whenI (decide (4096 < (ns.length : Int))) 5] _ ?_ rfl (by simp)).mono ?_
      · exact Rd.new _ _ _ _ (by simp)
      rintro e wq ⟨rfl, rfl⟩
      rw [← HE1.out]
      try go_simp
      refine hK.out _ _ ?_ (fun hHeld => ?_)
      · exact hHeld
      clear hK K
      try simp only [Act.put, VA, VB, VC]
      refine VD (i := 12) (oi := ⟨some 19, _, _, _, _, _⟩) (v := ?_) rfl (by kernel_rfl) (by kernel_rfl) (by kernel_rfl) (fun _ _ _ h => h) (Or.inl ⟨by kernel_rfl, ?_⟩) hHeld ?_
      rotate_left
      · intro w1 hSw; (try dsimp only at hSw); go_simp <;> with_reducible rfl
      try simp only [Act.put, VA, VB, VC]
      refine wpAnyH_done (by kernel_rfl) ?_ _
      have HRP3 := Lib.hid (HRP.out.old hHeld.2.2)
      clear hHeld
      have hnl : ns.length ≤ 4096 := by have := HL.out.1; omega
      have HNL := Lib.hid hnl
      clear hnl
      by_cases hE0 : EK = 0
      · subst hE0
        clear HRP
        go_upto_region 37 with fail
        refine genR (fun V => Hid (RpI w1 st sp ns ms (.slice A8 ns.length c8) vm V)) HRP3 ?_
        clear HRP3
        rintro W3 HRP3
        go_wp2_with fail
        go_loopg [20] ns.length (fun g s20 wx => ∃ k : Nat, k + g = ns.length ∧ s20 = .int .i64 k ∧ Hid (∀ n ∈ ns.take k, sampI (fb n) = 0) ∧ Hid (RpI w1 st sp ns ms (.slice A8 ns.length c8) vm wx))
        case atStart => exact ⟨0, by omega, rfl, (fun n hn => by rw [List.take_zero] at hn; cases hn), HRP3⟩
        case round =>
         clear HRP3
         obtain ⟨k, hk, rfl, HZ, HRP⟩ := hrel
         have hnl2 := HNL.out
         by_cases hlt : k < ns.length
         · have hlt2 : (k : Int) < (ns.length : Int) := by omega
           obtain ⟨n, hn⟩ : ∃ n, n = ns[k] := ⟨_, rfl⟩
           obtain ⟨ba, oa, hAe, cA⟩ := (owned_rd HRP.out.o8).int hlt
           rw [← hn] at cA
           subst hAe
           have HU := Lib.hid (unit_samp (HL.out.2.2 n (by rw [hn]; exact List.getElem_mem hlt)))
           have HTK : Hid (ns.take (k + 1) = ns.take k ++ [n]) := by unfold Hid; rw [List.take_succ_eq_append_getElem hlt, hn]
           have HN3 : Hid (∀ h : k < ns.length, ns[k] = n) := fun _ => hn.symm
           clear hn
           by_cases hu : rangeB n (-16384) 16384 = true
           · have HCU : Hid (∀ W, Calls Tryz.prog 66 #[.int .i64 n] W fun e w' => e = .returned (.int .i64 3) ∧ W = w') := fun W => by have h := checkUnit_any n W; rw [hu] at h; exact h
             have HR3 : Hid (sampI (fb n) = 3) := by unfold Hid; rw [HU.out, hu]; rfl
             have HLT := Lib.hid hlt
             clear HU hu
             go_wp2_with fail
             refine (HCU.out _).mono ?_
             rintro e wq ⟨rfl, hwq⟩
             subst hwq
             clear cA HTK
             have hr9 : Row wr w.heap.size 25 zero4 := HR1.out.below HRP.out.below HLt.out
             have hb9 : Hid (Below w.heap.size w wr) := HB1.out.trans (HRP.out.below.mono (by have := HLt.out; omega))
             have z0 := hr9.cell 0; have z1 := hr9.cell 1; have z2 := hr9.cell 2; have z3 := hr9.cell 3
             have f0 := hr9.free 0; have f1 := hr9.free 1; have f2 := hr9.free 2; have f3 := hr9.free 3
             have HR9 := Lib.hid hr9
             simp only [zero4, List.getElem?_cons_succ, List.getElem?_cons_zero] at z0 z1 z2 z3
             clear hr9
             go_wp2_with fail
             all_goals
              refine rp_out (w := w) i 3 ?_ ?_ ?_ HR9.out hb9.out ?_ (fun e w' h => rpQ_err (S := (st, sp, ns.map fb, ms)) HG4.out HI0.out (rec_unit (k := k) HNL.out HE1.out HLT.out HZ.out (by rw [HN3.out]; exact HR3.out)) (by decide) h)
              · rfl
              · rfl
              · rfl
              · rfl
           · have hu2 : rangeB n (-16384) 16384 = false := by simpa using hu
             have HCU : Hid (∀ W, Calls Tryz.prog 66 #[.int .i64 n] W fun e w' => e = .returned (.int .i64 0) ∧ W = w') := fun W => by have h := checkUnit_any n W; rw [hu2] at h; exact h
             have HZ2 : Hid (∀ m ∈ ns.take (k + 1), sampI (fb m) = 0) := fun m hm => by
              rw [HTK.out] at hm
              rcases List.mem_append.1 hm with h | h
              · exact HZ.out m h
              · rw [List.mem_singleton.1 h, HU.out, hu2]; rfl
             clear HU hu hu2
             go_wp2_with fail
             refine (HCU.out _).mono ?_
             rintro e wq ⟨rfl, hwq⟩
             subst hwq
             go_wp2_with fail
             go_roundg (ns.length - (k + 1))
             case measure => omega
             case rel => exact ⟨k + 1, by omega, by go_num, HZ2, HRP⟩
         · obtain rfl : k = ns.length := by omega
           have HB20 : Hid (∀ n ∈ ns, n.natAbs < 2 ^ 20) := fun n hn => by
            have h1 := HZ.out n (by rw [List.take_of_length_le (Nat.le_refl _)]; exact hn)
            rw [unit_samp (HL.out.2.2 n hn)] at h1
            unfold whenI rangeB at h1
            split at h1
            · cases h1
            · rename_i h2
              simp only [Bool.or_eq_true, decide_eq_true_eq] at h2
              omega
           obtain ⟨BM, dM, hvm, -⟩ := owned_slice HRP.out.om
           subst hvm
           clear HZ
           go_wp2_with fail
           refine (made_any A8 _ c8 ns _ (owned_rd HRP.out.o8) rfl (by omega) HB20.out).mono ?_
           rintro e w5 ⟨v, rfl, ho5, hb5⟩
           obtain ⟨AX, cX, rfl, hAX⟩ := owned_slice ho5
           have HRP5 := Lib.hid (HRP.out.old hb5)
           have HO5 := Lib.hid ho5
           have HAX := Lib.hid hAX
           have HRM := Lib.hid HRP.out.room
           have hr5 := HRP5.out.row
           have q2 := hr5.cell 2
           have p2 := hr5.free 2
           simp only [List.getElem?_cons_succ, List.getElem?_cons_zero] at q2
           clear hr5 ho5 hAX HRP hb5 HB20
           go_upto_region 43 with fail
           refine genR (fun V => Hid (Row V w1.heap.size 25 [.int .i64 st, .int .i64 sp, .slice AX ns.length cX, .slice BM ms.length dM]) ∧ Hid (Rd V AX (flts (ns.map fb))) ∧ Hid (Rd V BM (markC ms)) ∧ Hid (Below w1.heap.size w1 V)) ⟨HRP5.out.row.set 2 _, HAX.out.far (fun b off e => by have h1 := (HO5.out.lt b (by rw [e]; rfl)).1; have := HRM.out; omega) _ _, (owned_rd HRP5.out.om).far (fun b off e => by have h1 := (HRP5.out.om.lt b (by rw [e]; rfl)).1; omega) _ _, HRP5.out.below.setCell (Nat.le_refl _) _⟩ ?_
           have HCX := Lib.hid (own_cap HO5.out)
           have HAb : Hid (∀ b off, AX = some ⟨b, off, none⟩ → b ≠ w.heap.size) := fun b off e => by have h1 := (HO5.out.lt b (by rw [e]; rfl)).1; have := HRM.out; have := HLt.out; omega
           have HBb : Hid (∀ b off, BM = some ⟨b, off, none⟩ → b ≠ w.heap.size) := fun b off e => by have h1 := (HRP5.out.om.lt b (by rw [e]; rfl)).1; have := HLt.out; omega
           clear HRP5 HAX HO5 HRM q2 p2
           rintro W6 ⟨HRW, HAX, HBM, HBL⟩
           have hr5 := HRW.out
           have q0 := hr5.cell 0; have q1 := hr5.cell 1; have q2 := hr5.cell 2; have q3 := hr5.cell 3
           simp only [List.getElem?_cons_succ, List.getElem?_cons_zero] at q0 q1 q2 q3
           obtain ⟨RK, hRK⟩ : ∃ RK, RK = recI st sp (ns.map fb) ms := ⟨_, rfl⟩
           have HRK := Lib.hid hRK
           have HCR := Lib.hid (checkRecordingR_any st sp AX BM ns.length cX ms.length dM (ns.map fb) ms W6 HAX.out HBM.out (by rw [List.length_map]) rfl HCX.out.1 (by rw [List.length_map]; omega) (by have := HL.out.2.1; omega))
           rw [← hRK] at HCR
           clear hr5 hRK
           go_wp2_with fail
           refine HCR.out.mono ?_
           rintro e w7 ⟨rfl, hb7⟩
           have HRW7 := Lib.hid (HRW.out.old hb7)
           have HAX7 := Lib.hid (HAX.out.below hb7); have HBM7 := Lib.hid (HBM.out.below hb7); have HBL7 := Lib.hid (HBL.out.trans (hb7.mono HBL.out.size))
           clear hb7 q0 q1 q2 q3 HCR HRW HAX HBM HBL
           by_cases hK : RK = 0
           · subst hK
             go_upto_region 46 with fail
             have hr7 := HRW7.out
             have p0 := hr7.cell 0; have p1 := hr7.cell 1; have p2 := hr7.cell 2; have p3 := hr7.cell 3
             have hr9 : Row w7 w.heap.size 25 zero4 := HR1.out.below HBL7.out HLt.out
             have hb9 : Hid (Below w.heap.size w w7) := HB1.out.trans (HBL7.out.mono (by have := HLt.out; omega))
             have z0 := hr9.cell 0; have z1 := hr9.cell 1; have z2 := hr9.cell 2; have z3 := hr9.cell 3
             have f0 := hr9.free 0; have f1 := hr9.free 1; have f2 := hr9.free 2; have f3 := hr9.free 3
             have HR9 := Lib.hid hr9
             simp only [zero4, List.getElem?_cons_succ, List.getElem?_cons_zero] at z0 z1 z2 z3 p0 p1 p2 p3
             clear hr9 hr7
             go_wp2_with fail
             have hrow := (((HR9.out.set 0 (.int .i64 st)).set 1 (.int .i64 sp)).set 2 (.slice AX ns.length cX)).set 3 (.slice BM ms.length dM)
             have hbb := (((hb9.out.setCell (p := ⟨w.heap.size, 0, none⟩) (Nat.le_refl _) (.int .i64 st)).setCell (p := ⟨w.heap.size, 1, none⟩) (Nat.le_refl _) (.int .i64 sp)).setCell (p := ⟨w.heap.size, 2, none⟩) (Nat.le_refl _) (.slice AX ns.length cX)).setCell (p := ⟨w.heap.size, 3, none⟩) (Nat.le_refl _) (.slice BM ms.length dM)
             refine bodyPost_ret (results_ctt (fn := Tryz.f14) rfl _ _ w.heap.size 25 #[.int .i64 st, .int .i64 sp, .slice AX ns.length cX, .slice BM ms.length dM] (0, 0) _ rfl hrow Tryz.underlying25 rfl (by kernel_rfl)) rfl (rpQ_good (S := (st, sp, ns.map fb, ms)) HG4.out HI0.out HRK.out.symm ⟨AX, cX, BM, dM, ?_, ?_, ?_, HCX.out.2, hbb⟩)
             · show _ = Ending.returned (.tuple #[.agg #[.int .i64 st, .int .i64 sp, .slice AX (ns.map fb).length cX, .slice BM ms.length dM], .int .i64 0, .int .i64 0])
               rw [List.length_map]; rfl
             · exact (((HAX7.out.far HAb.out _ _).far HAb.out _ _).far HAb.out _ _).far HAb.out _ _
             · exact (((HBM7.out.far HBb.out _ _).far HBb.out _ _).far HBb.out _ _).far HBb.out _ _
           · have hne : (RK == 0) = false := by simpa using hK
             have hne2 : (RK != 0) = true := by simpa using hK
             have HK := Lib.hid hK
             clear hK
             have hr9 : Row w7 w.heap.size 25 zero4 := HR1.out.below HBL7.out HLt.out
             have hb9 : Hid (Below w.heap.size w w7) := HB1.out.trans (HBL7.out.mono (by have := HLt.out; omega))
             have z0 := hr9.cell 0; have z1 := hr9.cell 1; have z2 := hr9.cell 2; have z3 := hr9.cell 3
             have f0 := hr9.free 0; have f1 := hr9.free 1; have f2 := hr9.free 2; have f3 := hr9.free 3
             have HR9 := Lib.hid hr9
             simp only [zero4, List.getElem?_cons_succ, List.getElem?_cons_zero] at z0 z1 z2 z3
             clear hr9
             go_wp2_with fail
             all_goals
              refine rp_out (w := w) i RK ?_ ?_ ?_ HR9.out hb9.out ?_ (fun e w' h => rpQ_err (S := (st, sp, ns.map fb, ms)) HG4.out HI0.out HRK.out.symm HK.out h)
              · rfl
              · rfl
              · rfl
              · rfl
      · have hne : (EK == 0) = false := by simpa using hE0
        have hne2 : (EK != 0) = true := by simpa using hE0
        have HEN := Lib.hid hE0
        clear hE0 HRP
        go_upto_region 36 with fail
        refine genR (fun V => Hid (RpI w1 st sp ns ms (.slice A8 ns.length c8) vm V)) HRP3 ?_
        clear HRP3
        rintro W3 HRP3
        have hr9 : Row W3 w.heap.size 25 zero4 := HR1.out.below HRP3.out.below HLt.out
        have hb9 : Hid (Below w.heap.size w W3) := HB1.out.trans (HRP3.out.below.mono (by have := HLt.out; omega))
        have z0 := hr9.cell 0; have z1 := hr9.cell 1; have z2 := hr9.cell 2; have z3 := hr9.cell 3
        have f0 := hr9.free 0; have f1 := hr9.free 1; have f2 := hr9.free 2; have f3 := hr9.free 3
        have HR9 := Lib.hid hr9
        simp only [zero4, List.getElem?_cons_succ, List.getElem?_cons_zero] at z0 z1 z2 z3
        clear hr9
        go_wp2_with fail
        all_goals
         refine rp_out (w := w) i EK ?_ ?_ ?_ HR9.out hb9.out ?_ (fun e w' h => rpQ_err (S := (st, sp, ns.map fb, ms)) HG4.out HI0.out (rec_first HNL.out HE1.out HEN.out) HEN.out h)
         · rfl
         · rfl
         · rfl
         · rfl
    · have e0 : (lb a).toList.isEmpty = false := by rw [lb_toL]; cases a with | nil => exact absurd rfl ha | cons x y => rfl
      have HG4 : Hid (G = (i, false, (st, sp, ns.map fb, ms))) := by unfold Hid; rw [HG3.out, decide_eq_false ha]
      clear HG3 ha
      have hr9 : Row wr w.heap.size 25 zero4 := HR1.out.below HRP.out.below HLt.out
      have hb9 : Hid (Below w.heap.size w wr) := HB1.out.trans (HRP.out.below.mono (by have := HLt.out; omega))
      have z0 := hr9.cell 0; have z1 := hr9.cell 1; have z2 := hr9.cell 2; have z3 := hr9.cell 3
      have f0 := hr9.free 0; have f1 := hr9.free 1; have f2 := hr9.free 2; have f3 := hr9.free 3
      have HR9 := Lib.hid hr9
      simp only [zero4, List.getElem?_cons_succ, List.getElem?_cons_zero] at z0 z1 z2 z3
      clear hr9
      go_wp2_with fail
      all_goals
       refine rp_out (w := w) i 25 ?_ ?_ ?_ HR9.out hb9.out ?_ (fun e w' h => rpQ_bad (S := (st, sp, ns.map fb, ms)) HG4.out h)
       · rfl
       · rfl
       · rfl
       · rfl
end Go.Proofs.YtjdniebjhilooaaGreatDoor
