import Derived.Test.YtaknlhepgeiekaaGreatDoorH16
import Derived.Test.YtaknlhepgeiekaaGreatDoorH18
namespace Go.Proofs.YtaknlhepgeiekaaGreatDoor
set_option linter.all false
open Go.RowKit Go.Fl
attribute [local go_sem] Oper.semAt_some
theorem visit_stops (n : Nat) (hn : 1 ≤ n) (Bn n0 : Nat) (A : Option Addr) (c : Nat) (L : List Sg) (hL : L.length ≤ 1000000) (w : World) (hn0 : n0 ≤ w.heap.size) (hR : ∀ V, Below n0 w V → Rd V A (sgC L)) (hB : Row w Bn 45 [.slice A L.length c]) :
 SeqStopsK Fence.wide n Tryz.prog 109 #[.pointer (some ⟨Bn, 0, none⟩)] (fun x : Fin L.length => #[numV L x.1]) (Below n0) (fun ys => ys = List.finRange L.length) (fun _ => True) L.length w := fun l J Jx W hW hJ _ hY h0 =>
 visit_in n hn l Bn n0 A c L hL J Jx W hJ hY (Nat.le_trans hn0 hW.size) (fun V hV => hR V ((hW.mono hn0).trans hV)) (hB.old hW) h0
theorem List.reverseRecOn' {α : Type} {p : List α → Prop} (l : List α) (nil : p []) (snoc : ∀ l x, p l → p (l ++ [x])) : p l := by
 have h : ∀ m : List α, p m.reverse := fun m => by
  induction m with
  | nil => exact nil
  | cons x m ih => rw [List.reverse_cons]; exact snoc _ _ ih
 have := h l.reverse
 rwa [List.reverse_reverse] at this
theorem Row.keptM {W W' : World} {row : Option Nat} {g : Nat} {t : TypeId} {vs : List Value} (h : Row W g t vs) (hg : W.grownBy W' row) (hr : ∀ r, row = some r → ∃ o : Obj, W.heap[r]? = some o ∧ o.isCells = false) : Row W' g t vs :=
 (hg.block g h.lt (fun e => by obtain ⟨o, ho, hc⟩ := hr g e.symm; rw [show W.heap[g]? = _ from h] at ho; cases ho; cases hc)).trans h
def numC (L : List Sg) (i : Nat) : List Value := [.int .i64 (L.getD i ⟨0, 0, 0, 0, 0, 0⟩).a, .int .i64 (L.getD i ⟨0, 0, 0, 0, 0, 0⟩).b, .int .i64 (L.getD i ⟨0, 0, 0, 0, 0, 0⟩).c, .int .i64 (L.getD i ⟨0, 0, 0, 0, 0, 0⟩).d, .int .i64 (L.getD i ⟨0, 0, 0, 0, 0, 0⟩).x, .int .i64 (L.getD i ⟨0, 0, 0, 0, 0, 0⟩).y, .int .i64 (i : Int)]
theorem rowAtA (W : World) (n : Nat) {t : TypeId} {k : Nat} {v : Value} (hn : W.heap.size = n) : Row (W.alloc (.cells (Array.replicate k v) t)) n t (List.replicate k v) := by
 subst hn
 have h := Row.new W t (List.replicate k v)
 rwa [List.toArray_replicate] at h
set_option maxRecDepth 100000 in
set_option maxHeartbeats 1000000 in
theorem visited_any (A : Option Addr) (n c : Nat) (w : World) : Calls Tryz.prog 53 #[.slice A n c] w fun e w' => e = .returned (.func (.func 109) #[] #[.pointer (some ⟨w.heap.size, 0, none⟩)]) ∧ Row w' w.heap.size 45 [.slice A n c] ∧ Below w.heap.size w w' := by
 go_enter Tryz.func53, Tryz.ntmps53
 go_wp2
 go_ret
 exact ⟨rfl, Row.new w 45 [.slice A n c], (Below.refl _ _).alloc (Nat.le_refl _) _⟩
theorem foL_len (rs rf rl ra rb lag start : Int) (L : List Sg) : (foL rs rf rl ra rb lag start L).length = L.length := by simp [foL]
theorem foL_get (rs rf rl ra rb lag start : Int) (L : List Sg) (k : Nat) (hk : k < L.length) : (foL rs rf rl ra rb lag start L)[k]'(by rw [foL_len]; exact hk) = (L.take (k + 1)).foldl (foN rs rf rl ra rb lag) start := by simp [foL]
theorem fold_take (rs rf rl ra rb lag start : Int) (L : List Sg) (k : Nat) (hk : k < L.length) : (L.take (k + 1)).foldl (foN rs rf rl ra rb lag) start = foN rs rf rl ra rb lag ((L.take k).foldl (foN rs rf rl ra rb lag) start) L[k] := by
 rw [List.take_succ_eq_append_getElem hk, List.foldl_append]; rfl
def stF (rs rf rl ra rb lag : Int) (L : List Sg) (st : List Int × Int) (i : Fin L.length) : List Int × Int := (st.1.set i.1 (foN rs rf rl ra rb lag st.2 L[i.1]), foN rs rf rl ra rb lag st.2 L[i.1])
def stP (rs rf rl ra rb lag start : Int) (L : List Sg) (pre : List (Fin L.length)) : List Int × Int := pre.foldl (stF rs rf rl ra rb lag L) (List.replicate L.length 0, start)
theorem stP_snoc (rs rf rl ra rb lag start : Int) (L : List Sg) (pre : List (Fin L.length)) (x : Fin L.length) : stP rs rf rl ra rb lag start L (pre ++ [x]) = stF rs rf rl ra rb lag L (stP rs rf rl ra rb lag start L pre) x := by simp [stP, List.foldl_append]
theorem stP_ok {rs rf rl ra rb lag start : Int} {L : List Sg} (hR : RecG rs rf rl ra rb) (hl : 1 ≤ lag) (hs : -rf ≤ start ∧ start ≤ rf) (pre : List (Fin L.length)) : (stP rs rf rl ra rb lag start L pre).1.length = L.length ∧ -rf ≤ (stP rs rf rl ra rb lag start L pre).2 ∧ (stP rs rf rl ra rb lag start L pre).2 ≤ rf := by
 induction pre using List.reverseRecOn' with
 | nil => exact ⟨by simp [stP], hs.1, hs.2⟩
 | snoc pre x ih =>
   rw [stP_snoc]
   exact ⟨by simp [stF, ih.1], foN_bd hR hl ih.2 _⟩
theorem stP_all (rs rf rl ra rb lag start : Int) (L : List Sg) (k : Nat) (hk : k ≤ L.length) : stP rs rf rl ra rb lag start L ((List.finRange L.length).take k) = ((foL rs rf rl ra rb lag start L).take k ++ List.replicate (L.length - k) 0, (L.take k).foldl (foN rs rf rl ra rb lag) start) := by
 induction k with
 | zero => simp [stP]
 | succ k ih =>
   have h : k < L.length := hk
   rw [← range_snoc k h, stP_snoc, ih (by omega), stF]
   have e := fold_take rs rf rl ra rb lag start L k h
   simp only
   rw [← e]
   refine Prod.ext ?_ rfl
   show List.set _ k _ = _
   have h2 : k < (foL rs rf rl ra rb lag start L).length := by rw [foL_len]; exact h
   rw [List.take_succ_eq_append_getElem h2, foL_get _ _ _ _ _ _ _ _ _ h, List.append_assoc]
   have h3 : L.length - k = (L.length - (k + 1)) + 1 := by omega
   rw [h3, List.replicate_succ, List.set_append_right _ _ (by simp; omega)]
   simp [foL_len, Nat.min_eq_left (Nat.le_of_lt h)]
def FoI (w : World) (rs rf rl ra rb lag start : Int) (L : List Sg) (g11 g12 gN gR gL : Nat) (pre : List (Fin L.length)) (W : World) : Prop :=
 Row W g11 3 [.int .i64 (stP rs rf rl ra rb lag start L pre).2] ∧ Row W g12 74 [.slice (some ⟨gN, 0, none⟩) L.length L.length] ∧ Row W gN 3 (ints (stP rs rf rl ra rb lag start L pre).1) ∧ Row W gR 87 [.int .i64 rs, .int .i64 rf, .int .i64 rl, .int .i64 ra, .int .i64 rb] ∧ Row W gL 3 [.int .i64 lag] ∧ Below w.heap.size w W
theorem FoI.keep {w : World} {rs rf rl ra rb lag start : Int} {L : List Sg} {g11 g12 gN gR gL : Nat} {pre : List (Fin L.length)} {W W' : World} (h : FoI w rs rf rl ra rb lag start L g11 g12 gN gR gL pre W) (hb : Below W.heap.size W W') : FoI w rs rf rl ra rb lag start L g11 g12 gN gR gL pre W' := by
 obtain ⟨h2, h3, h4, h5, h6, h7⟩ := h
 exact ⟨h2.old hb, h3.old hb, h4.old hb, h5.old hb, h6.old hb, h7.trans (hb.mono h7.size)⟩
theorem Row.ne2 {w : World} {g h : Nat} {t u : TypeId} {vs us : List Value} (a : Row w g t vs) (b : Row w h u us) (hne : t ≠ u) : ¬ g = h := by
 rintro rfl
 have e := a.symm.trans b
 injection e with e
 injection e with _ e2
 exact hne e2
theorem results_tt {P : Program} {fn : Func} {t u : Tmp} (h : fn.results = #[.tmp t, .tmp u]) (tmps : Array Value) (w : World) : (results fn tmps).run P w = .ok (.tuple #[tmps.getD t undef, tmps.getD u undef]) w := by
 simp [results, h]
attribute [local go_sem] Oper.semAt_some
set_option maxRecDepth 100000 in
set_option maxHeartbeats 8000000 in
theorem followed_ok (rs rf rl ra rb lag start E : Int) (A : Option Addr) (c : Nat) (L : List Sg) (w : World) (hA : Rd w A (sgC L)) (hL : L.length ≤ 1000000) (hrf : rf.natAbs ≤ 9000000000000000000 ) (hE : E = firstI [recE rs rf rl ra rb, whenI (rangeB lag 1 16) 3, whenI (rangeB start (-rf) rf) 3, sgsE L]) (h0 : E = 0) (hR : RecG rs rf rl ra rb) (hlag : 1 ≤ lag ∧ lag ≤ 16) (hst : -rf ≤ start ∧ start ≤ rf) (hg : ∀ s ∈ L, SigG s.a s.b s.c s.d s.x s.y) (hn : 0 < L.length ∧ L.length ≤ 256) : Calls Tryz.prog 34 #[.agg #[.int .i64 rs, .int .i64 rf, .int .i64 rl, .int .i64 ra, .int .i64 rb], .int .i64 lag, .int .i64 start, .slice A L.length c] w fun e w' => ∃ g, e = .returned (.tuple #[.slice (some ⟨g, 0, none⟩) L.length L.length, .int .i64 0]) ∧ Row w' g 3 (ints (foL rs rf rl ra rb lag start L)) ∧ w.heap.size ≤ g ∧ Below w.heap.size w w' := by
 have HA := Lib.hid hA
 have HC1 : Hid (∀ W, Calls Tryz.prog 84 #[.agg #[.int .i64 rs, .int .i64 rf, .int .i64 rl, .int .i64 ra, .int .i64 rb]] W fun e w' => e = .returned (.int .i64 (recE rs rf rl ra rb)) ∧ Below W.heap.size W w') := fun W => checkReceiver_any rs rf rl ra rb W
 have HC4 : Hid (∀ W, Below w.heap.size w W → Calls Tryz.prog 52 #[.slice A L.length c] W fun e w' => e = .returned (.int .i64 (sgsE L)) ∧ Below W.heap.size W w') := fun W hW => checkSignals_any A c L W (hA.below hW) hL
 obtain ⟨E1, hE1⟩ : ∃ E1, E1 = recE rs rf rl ra rb := ⟨_, rfl⟩
 obtain ⟨E4, hE4⟩ : ∃ E4, E4 = sgsE L := ⟨_, rfl⟩
 obtain ⟨E2, hE2⟩ : ∃ E2, E2 = whenI (rangeB lag 1 16) 3 := ⟨_, rfl⟩
 obtain ⟨E3, hE3⟩ : ∃ E3, E3 = whenI (rangeB start (-rf) rf) 3 := ⟨_, rfl⟩
 have HC2 : Hid (∀ W, Calls Tryz.prog 86 #[.int .i64 lag, .int .i64 1, .int .i64 16] W fun e w' => e = .returned (.int .i64 E2) ∧ W = w') := fun W => by rw [hE2]; exact between_any lag 1 16 W
 have HC3 : Hid (∀ W, Calls Tryz.prog 86 #[.int .i64 start, .int .i64 (-rf), .int .i64 rf] W fun e w' => e = .returned (.int .i64 E3) ∧ W = w') := fun W => by rw [hE3]; exact between_any start (-rf) rf W
 rw [← hE1] at HC1 hE
 rw [← hE4] at HC4 hE
 rw [← hE2, ← hE3] at hE
 have HE := Lib.hid hE
 have hne : (E == 0) = true := by simpa using h0
 have hne2 : (E != 0) = false := by simpa using h0
 have ew : IntKind.i64.wrap (-rf) = -rf := IntWalk.i64_in _ (by omega)
 have HR := Lib.hid hR; have HLAG := Lib.hid hlag; have HST := Lib.hid hst; have HG := Lib.hid hg; have HN := Lib.hid hn; have HL := Lib.hid hL
 have hmk := fun W : World => make1 (P := Tryz.prog) 74 3 (.int .i64 0) 8 Tryz.underlying74 info3 rfl L.length (by omega) (by omega) W
 clear hR hlag hst hg hn hL hrf
 clear hE hE1 hE2 hE3 hE4 h0 hA
 refine (callsIn_wide (n := 4)).1 ?_
 refine callsIn_of_wp_marks Tryz.func34 rfl trivial ?_ rfl
 simp only [Tryz.ntmps34, List.size_toArray, List.length_cons, List.length_nil, Nat.reduceAdd, Nat.reduceSub, Array.replicate_succ, Array.replicate_zero, List.push_toArray, List.append_toArray, List.nil_append, List.cons_append]
 refine wpIn_wide.2 ?_
 go_upto_region 1 with fail
 refine genT (fun V => Row V (w.heap.size) 87 [.int .i64 rs, .int .i64 rf, .int .i64 rl, .int .i64 ra, .int .i64 rb] ∧ Row V (w.heap.size + 1) 3 [.int .i64 lag] ∧ Below w.heap.size w V) ⟨(Row.alloc (rowAt _ _ (by first | rfl | simp only [World.size_alloc])) _), (rowAt _ _ (by first | rfl | simp only [World.size_alloc])), (((Below.refl _ _).alloc (by first | exact Nat.le_refl _ | (simp only [World.size_alloc]; omega)) _).alloc (by first | exact Nat.le_refl _ | (simp only [World.size_alloc]; omega)) _)⟩ ?_
 intro W1 s1
 have HS1 := Lib.hid s1
 clear s1
 refine wp_region_noPanic ?_
 refine wp_region_held_drew (S := fun V => Row V (w.heap.size) 87 [.int .i64 rs, .int .i64 rf, .int .i64 rl, .int .i64 ra, .int .i64 rb] ∧ Row V (w.heap.size + 1) 3 [.int .i64 lag] ∧ Below w.heap.size w V) (by kernel_rfl) ?_ (fun hHeld => ?_)
 · exact ⟨(HS1.out.1).drew, (HS1.out.2.1).drew, (HS1.out.2.2).drew⟩
 refine tk 0 16 (.agg #[.int .i64 rs, .int .i64 rf, .int .i64 rl, .int .i64 ra, .int .i64 rb]) rfl (by kernel_rfl) (fun _ _ _ h => h) (by kernel_rfl) (fun V hV => ex_rowT 87 _ rfl (w.heap.size) rfl 87 [.int .i64 rs, .int .i64 rf, .int .i64 rl, .int .i64 ra, .int .i64 rb] _ Tryz.underlying87 rfl (by kernel_rfl) (hV.1)) hHeld ?_
 try simp only [zz]
 refine tk 2 18 ?_ rfl (by kernel_rfl) (fun _ _ _ h => h) (by kernel_rfl) ?_ hHeld ?_
 rotate_left
 · intro w1 hSw; (try dsimp only at hSw); have cc := (hSw.2.1).cell 0; simp only [List.getElem?_cons_succ, List.getElem?_cons_zero] at cc; go_simp <;> with_reducible rfl
 try simp only [zz]
 refine ta 4 20 hHeld ?_
 try simp only [zz]
 refine ta 5 21 hHeld ?_
 try simp only [zz]
 refine tk 6 22 ?_ rfl (by kernel_rfl) (fun _ _ _ h => h) (by kernel_rfl) ?_ hHeld ?_
 rotate_left
 · intro w1 hSw; (try dsimp only at hSw); have cc := (hSw.1).cell 1; simp only [List.getElem?_cons_succ, List.getElem?_cons_zero] at cc; go_simp <;> with_reducible rfl
 try simp only [zz]
 refine ta 7 23 hHeld ?_
 try simp only [zz]
 refine ta 8 24 hHeld ?_
 try simp only [zz]
 refine tk 9 25 ?_ rfl (by kernel_rfl) (fun _ _ _ h => h) (by kernel_rfl) ?_ hHeld ?_
 rotate_left
 · intro w1 hSw; (try dsimp only at hSw); have cc := (hSw.1).cell 1; simp only [List.getElem?_cons_succ, List.getElem?_cons_zero] at cc; go_simp <;> with_reducible rfl
 try simp only [zz]
 refine ta 11 27 hHeld ?_
 try simp only [zz]
 refine st2 1 (fun K hK => ?_)
 go_simp
 go_at_call 84
 refine (HC1.out _).mono ?_
 rintro e v1 ⟨rfl, hb1⟩
 try go_simp
 refine hK.out _ _ ?_ (fun hHeld => ?_)
 · exact ⟨(hHeld.1).old hb1, (hHeld.2.1).old hb1, (hHeld.2.2).trans ((hb1).mono (hHeld.2.2).size)⟩
 clear hK K
 try simp only [zz]
 refine st2 3 (fun K hK => ?_)
 go_simp
 go_at_call 86
 refine (HC2.out _).mono ?_
 rintro e v3 ⟨rfl, rfl⟩
 try go_simp
 refine hK.out _ _ ?_ (fun hHeld => ?_)
 · exact hHeld
 clear hK K
 try simp only [zz]
 refine st2 10 (fun K hK => ?_)
 go_simp
 go_at_call 86
 refine (HC3.out _).mono ?_
 rintro e v10 ⟨rfl, rfl⟩
 try go_simp
 refine hK.out _ _ ?_ (fun hHeld => ?_)
 · exact hHeld
 clear hK K
 try simp only [zz]
 refine st2 12 (fun K hK => ?_)
 go_simp
 go_at_call 52
 refine (HC4.out _ (hHeld.2.2)).mono ?_
 rintro e v12 ⟨rfl, hb12⟩
 try go_simp
 refine hK.out _ _ ?_ (fun hHeld => ?_)
 · exact ⟨(hHeld.1).old hb12, (hHeld.2.1).old hb12, (hHeld.2.2).trans ((hb12).mono (hHeld.2.2).size)⟩
 clear hK K
 try simp only [zz]
 refine st2 13 (fun K hK => ?_)
 go_simp
 refine hK.out _ _ ?_ (fun hHeld => ?_)
 · exact ⟨(hHeld.1).old ((Below.refl _ _).alloc (Nat.le_refl _) _), (hHeld.2.1).old ((Below.refl _ _).alloc (Nat.le_refl _) _), (hHeld.2.2).trans ((((Below.refl _ _).alloc (Nat.le_refl _) _)).mono (hHeld.2.2).size)⟩
 clear hK K
 try simp only [zz]
 refine st2 14 (fun K hK => ?_)
 go_simp
 go_at_call 64
 refine (firstV_any _ _ _ [E1, E2, E3, E4] _ ?_ rfl (by simp)).mono ?_
 · exact Rd.newT (t := 32)
 rintro e v13 ⟨rfl, rfl⟩
 try go_simp
 refine hK.out _ _ ?_ (fun hHeld => ?_)
 · exact hHeld
 clear hK K
 try simp only [zz]
 refine ta 15 10 hHeld ?_
 try simp only [zz]
 refine wpAnyH_done (by kernel_rfl) ?_ _
 rw [← HE.out]
 clear HC1 HC2 HC3 HC4 HE ew
 have HS2 := Lib.hid hHeld
 clear hHeld HS1
 refine NoPanic.normal ?_
 go_upto_region 6 with fail
 have hz2 : w.heap.size + 1 ≤ v12.heap.size := by have h := HS2.out.2.1.lt; simp only [World.size_alloc] at h; omega
 have hzw : w.heap.size < v12.heap.size := by omega
 have hzl : w.heap.size ≤ v12.heap.size := by omega
 refine genT (fun V => Row V w.heap.size 87 [.int .i64 rs, .int .i64 rf, .int .i64 rl, .int .i64 ra, .int .i64 rb] ∧ Row V (w.heap.size + 1) 3 [.int .i64 lag] ∧ Row V (v12.heap.size + 1) 3 [.int .i64 start] ∧ Row V (v12.heap.size + 1 + 1) 3 (List.replicate L.length (.int .i64 0)) ∧ Row V (v12.heap.size + 1 + 1 + 1) 74 [.slice (some ⟨v12.heap.size + 1 + 1, 0, none⟩) L.length L.length] ∧ v12.heap.size + 1 + 1 + 1 < V.heap.size ∧ Below w.heap.size w V) ⟨((((HS2.out.1).alloc _).alloc _).alloc _), ((((HS2.out.2.1).alloc _).alloc _).alloc _), ((rowAt _ _ (by first | rfl | simp only [World.size_alloc])).alloc _).alloc _, (rowAtA _ _ (by first | rfl | simp only [World.size_alloc])).alloc _, rowAt _ _ (by first | rfl | simp only [World.size_alloc]), by simp only [World.size_alloc]; omega, ((HS2.out.2.2.alloc (by simp only [World.size_alloc]; omega) _).alloc (by simp only [World.size_alloc]; omega) _).alloc (by simp only [World.size_alloc]; omega) _⟩ ?_
 intro W6 s6
 have HS6 := Lib.hid s6
 clear s6 HS2
 go_wp2_with (go_at_call 53; refine (visited_any _ _ _ _).mono ?_; rintro e W7 ⟨rfl, hrow7, hb7⟩; have HS7 : Hid (Row W7 w.heap.size 87 [.int .i64 rs, .int .i64 rf, .int .i64 rl, .int .i64 ra, .int .i64 rb] ∧ Row W7 (w.heap.size + 1) 3 [.int .i64 lag] ∧ Row W7 (v12.heap.size + 1) 3 [.int .i64 start] ∧ Row W7 (v12.heap.size + 1 + 1) 3 (List.replicate L.length (.int .i64 0)) ∧ Row W7 (v12.heap.size + 1 + 1 + 1) 74 [.slice (some ⟨v12.heap.size + 1 + 1, 0, none⟩) L.length L.length] ∧ v12.heap.size + 1 + 1 + 1 < W6.heap.size ∧ Row W7 W6.heap.size 45 [.slice A L.length c] ∧ Below w.heap.size w W7) := ⟨HS6.out.1.old hb7, HS6.out.2.1.old hb7, HS6.out.2.2.1.old hb7, HS6.out.2.2.2.1.old hb7, HS6.out.2.2.2.2.1.old hb7, HS6.out.2.2.2.2.2.1, hrow7, HS6.out.2.2.2.2.2.2.trans (hb7.mono HS6.out.2.2.2.2.2.2.size)⟩; clear hb7 hrow7)
 refine wpIn_wide.1 (?_ : Code.wpIn Fence.wide 4 Tryz.prog _ _ _ _)
 have HB7 : Hid (w.heap.size ≤ W7.heap.size) := HS7.out.2.2.2.2.2.2.2.size
 have hRd : ∀ V, Below w.heap.size W7 V → Rd V A (sgC L) := fun V hV => HA.out.below (HS7.out.2.2.2.2.2.2.2.trans hV)
 apply wpIn_rangeFunc_ownH (F := Fence.wide) (encs := fun x : Fin L.length => #[numV L x.1]) (Kp := Below w.heap.size) (S := fun ys => ys = List.finRange L.length) (Sp := fun _ => True) (N := L.length) (w0 := W7) rfl (by omega) (gf := 109) (lb := #[.pointer (some ⟨W6.heap.size, 0, none⟩)]) rfl trivial (enters_of Tryz.func109 (by kernel_rfl) rfl)
  (visit_stops 3 (by omega) W6.heap.size w.heap.size A c L HL.out W7 HB7.out hRd HS7.out.2.2.2.2.2.2.1) (fun h k => Below.trans h k) (below_put HB7.out) (Below.refl _ _) (fun _ => rfl)
  (FoI w rs rf rl ra rb lag start L (v12.heap.size + 1) (v12.heap.size + 1 + 1 + 1) (v12.heap.size + 1 + 1) w.heap.size (w.heap.size + 1))
  (fun _ _ _ => False)
 case Ax => exact (fun x a' W => ∃ g : Nat, a' = { tmps := #[.agg #[.int .i64 rs, .int .i64 rf, .int .i64 rl, .int .i64 ra, .int .i64 rb], .int .i64 lag, .int .i64 start, .slice A L.length c, .pointer (some ⟨w.heap.size, 0, none⟩), .pointer (some ⟨w.heap.size + 1, 0, none⟩), undef, undef, .slice none 0 0, .int .i64 0, .int .i64 E, .pointer (some ⟨v12.heap.size + 1, 0, none⟩), .pointer (some ⟨v12.heap.size + 1 + 1 + 1, 0, none⟩), .pointer (some ⟨g, 0, none⟩), undef, undef, .agg #[.int .i64 rs, .int .i64 rf, .int .i64 rl, .int .i64 ra, .int .i64 rb], .int .i64 E1, .int .i64 lag, .int .i64 E2, .int .i64 start, .pointer (some ⟨w.heap.size, 1, none⟩), .int .i64 rf, .int .i64 (-rf), .pointer (some ⟨w.heap.size, 1, none⟩), .int .i64 rf, .int .i64 E3, .slice A L.length c, .int .i64 E4, .slice (some ⟨v12.heap.size, 0, none⟩) 4 4, .int .i64 E, .int .i64 E, .bool false, undef, .int .i64 start, .slice A L.length c, .int .i64 L.length, .slice (some ⟨v12.heap.size + 1 + 1, 0, none⟩) L.length L.length, .slice A L.length c, .func (.func 109) #[] #[.pointer (some ⟨W6.heap.size, 0, none⟩)], numV L x.1, undef, undef, undef, undef, undef, undef, undef, undef, undef, undef, undef, undef, undef, undef, undef, undef, undef, undef, undef, undef, undef, undef, undef], defers := [] } ∧ Row W g 129 (numC L x.1))
 case hI =>
  rintro pre X Y row ⟨h2, h3, h4, h5, h6, h7⟩ hg hr
  have hr2 : ∀ r, row = some r → ∃ o : Obj, X.heap[r]? = some o ∧ o.isCells = false := fun r e => (hr r e).2
  exact ⟨h2.keptM hg hr2, h3.keptM hg hr2, h4.keptM hg hr2, h5.keptM hg hr2, h6.keptM hg hr2, h7.grown hg h7.size (fun k e => Nat.le_trans HB7.out (hr k e).1)⟩
 case hIx => exact fun _ _ _ _ _ hs _ _ => hs
 case h0 => exact ⟨HS7.out.2.2.1, HS7.out.2.2.2.2.1, by simpa [ints, stP] using HS7.out.2.2.2.1, HS7.out.1, HS7.out.2.1, HS7.out.2.2.2.2.2.2.2⟩
 case hAx =>
  rintro x a' s X Y row ⟨g, e, hr⟩ hg hrow
  exact ⟨g, e, hr.keptM hg (fun r e => (hrow r e).2)⟩
 case hassign =>
  intro l pre x W K hI hK
  have HK := Lib.hid hK; have HI := Lib.hid hI
  have hnv : numV L x.1 = .agg (numC L x.1).toArray := rfl
  have HNV := Lib.hid hnv
  rw [hnv]
  unfold numC
  obtain ⟨s, hs⟩ : ∃ s, s = L.getD x.1 ⟨0, 0, 0, 0, 0, 0⟩ := ⟨_, rfl⟩
  have HSX := Lib.hid hs
  rw [← hs]
  clear hK hI hs hnv
  gi_wp2
  have hb : Below W.heap.size W (W.alloc (.cells #[.int .i64 s.a, .int .i64 s.b, .int .i64 s.c, .int .i64 s.d, .int .i64 s.x, .int .i64 s.y, .int .i64 (x.1 : Int)] 129)) := (Below.refl _ _).alloc (Nat.le_refl _) _
  refine HK.out _ _ ((belowKO hb).from _) (hb.mono HI.out.2.2.2.2.2.size) (HI.out.keep hb) ⟨W.heap.size, ?_, ?_⟩
  · rw [HNV.out]; unfold numC; rw [← HSX.out]
  · unfold numC; rw [← HSX.out]; exact Row.new W _ _
 case hbody =>
  rintro l pre x a' W hl hlo hI ⟨g, rfl, hrow⟩ hlen
  have hmx : Tryz.prog.follows .mixedOrders = true := by kernel_rfl
  have HST := Lib.hid (stP_ok HR.out HLAG.out.1 HST.out pre)
  have HSN := Lib.hid (stP_snoc rs rf rl ra rb lag start L pre x)
  have HLEN := Lib.hid hlen
  obtain ⟨s, hs⟩ : ∃ s, s = L[x.1] := ⟨_, rfl⟩
  have hsx : L.getD x.1 ⟨0, 0, 0, 0, 0, 0⟩ = s := by rw [hs]; simp
  have hg : SigG s.a s.b s.c s.d s.x s.y := HG.out s (by rw [hs]; exact List.getElem_mem _)
  have HT := Lib.hid (fun V => told_sg rs rf rl ra rb s V HR.out hg)
  have hfo : foN rs rf rl ra rb lag (stP rs rf rl ra rb lag start L pre).2 L[x.1] = if flB rl s || flD ra rb s then (stP rs rf rl ra rb lag start L pre).2 else (stP rs rf rl ra rb lag start L pre).2 + (tvS rs rf rl ra rb s - (stP rs rf rl ra rb lag start L pre).2) / lag := by rw [← hs]; rfl
  have htv := tv_bd HR.out s
  have hfl : flS rl ra rb s = flagS (flB rl s) (flD ra rb s) := rfl
  have hnb := foN_bd HR.out HLAG.out.1 HST.out.2 s
  obtain ⟨ix, hix⟩ : ∃ ix, ix = x.1 := ⟨_, rfl⟩
  have hixl : ix < L.length := by rw [hix]; exact x.2
  unfold FoI at hI
  obtain ⟨h2, h3, h4, h5, h6, h7⟩ := hI
  unfold stF at HSN
  rw [hfo] at HSN
  rw [foN] at hnb
  obtain ⟨B0, hB0⟩ : ∃ B0, B0 = flB rl s := ⟨_, rfl⟩
  obtain ⟨D0, hD0⟩ : ∃ D0, D0 = flD ra rb s := ⟨_, rfl⟩
  obtain ⟨tv, htv0⟩ : ∃ tv, tv = tvS rs rf rl ra rb s := ⟨_, rfl⟩
  obtain ⟨fl, hfl0⟩ : ∃ fl, fl = flS rl ra rb s := ⟨_, rfl⟩
  have hlen1 := HST.out.1
  have hbd1 := HST.out.2
  obtain ⟨⟨ns, n0⟩, hst⟩ : ∃ q, q = stP rs rf rl ra rb lag start L pre := ⟨_, rfl⟩
  rw [← hst] at h2 h4 HSN hlen1 hbd1 hnb
  rw [← hB0, ← hD0, ← htv0] at HSN hnb
  rw [← htv0] at htv HT
  rw [← hfl0] at hfl HT
  rw [← hB0, ← hD0] at hfl
  dsimp only at h2 h4 HSN hlen1 hbd1 hnb
  unfold numC at hrow
  rw [hsx] at hrow
  rw [← hix] at hrow HSN
  have HROW := Lib.hid hrow; have H2 := Lib.hid h2; have H3 := Lib.hid h3; have H4 := Lib.hid h4; have H5 := Lib.hid h5; have H6 := Lib.hid h6; have H7 := Lib.hid h7
  have HB1 := Lib.hid hlen1; have HB2 := Lib.hid hbd1; have HB3 := Lib.hid hnb; have HTV := Lib.hid htv
  have HRF : Hid (1 ≤ rf ∧ rf ≤ 1000) := HR.out.f
  clear hrow h2 h3 h4 h5 h6 h7 hlen1 hbd1 hnb hst hfl0 htv0 hD0 hB0 hix hs hsx hg hfo htv hlen HST
  have r0 := H5.out.cell 0; have r1 := H5.out.cell 1; have r2 := H5.out.cell 2; have r3 := H5.out.cell 3; have r4 := H5.out.cell 4
  have s0 := HROW.out.cell 0; have s1 := HROW.out.cell 1; have s2 := HROW.out.cell 2; have s3 := HROW.out.cell 3; have s4 := HROW.out.cell 4; have s5 := HROW.out.cell 5
  simp only [List.getElem?_cons_succ, List.getElem?_cons_zero] at r0 r1 r2 r3 r4 s0 s1 s2 s3 s4 s5
  have n1 : ¬ g = v12.heap.size + 1 := Row.ne2 HROW.out H2.out (by decide)
  have HNS : Hid (ix < ns.length) := by unfold Hid; rw [HB1.out]; exact hixl
  have hil : (ix : Int) < (L.length : Int) := by omega
  have hi0 : (0 : Int) ≤ (ix : Int) := by omega
  have HIX : Hid (ix < L.length) := hixl
  clear hixl
  cases B0 with
  | true =>
    rw [show flagS true D0 = ⟨#[119, 101, 97, 107]⟩ from rfl] at hfl
    subst hfl
    have HSN2 : Hid (stP rs rf rl ra rb lag start L (pre ++ [x]) = (ns.set ix n0, n0)) := by unfold Hid; rw [HSN.out]; rfl
    clear HSN HB3 HTV HRF
    gi_wp2_with (refine ⟨trivial, ?_⟩; gi_at_call 85; refine (CallsIn.inRound l (callsIn_wide.2 (HT.out _))).mono ?_; rintro e w1 ⟨rfl, hb1⟩; have HBW := Lib.hid hb1; have H2a := Lib.hid (H2.out.old hb1); have H3a := Lib.hid (H3.out.old hb1); have H4a := Lib.hid (H4.out.old hb1); have HRa := Lib.hid (HROW.out.old hb1); have c11 := H2a.out.cell 0; have d12 := H3a.out.cell 0; have d6 := HRa.out.cell 6; have fN := H4a.out.free ix; have cN := H4a.out.cellAt (j := ix) (by simpa [ints] using HNS.out); simp only [List.getElem?_cons_succ, List.getElem?_cons_zero] at c11 d12 d6; clear hb1 r0 r1 r2 r3 r4 s0 s1 s2 s3 s4 s5)
    refine ⟨((belowKO HBW.out).trans (KeepsOthers.setCell _ _ _)).from _, (HBW.out.mono H7.out.size).setCell (show w.heap.size ≤ v12.heap.size + 1 + 1 by omega) _, ?_, H3a.out.far (show v12.heap.size + 1 + 1 + 1 ≠ v12.heap.size + 1 + 1 by omega) _, ?_, (H5.out.old HBW.out).far (show w.heap.size ≠ v12.heap.size + 1 + 1 by omega) _, (H6.out.old HBW.out).far (show w.heap.size + 1 ≠ v12.heap.size + 1 + 1 by omega) _, (H7.out.trans (HBW.out.mono H7.out.size)).setCell (show w.heap.size ≤ v12.heap.size + 1 + 1 by omega) _⟩
    · rw [HSN2.out]; exact H2a.out.far (show v12.heap.size + 1 ≠ v12.heap.size + 1 + 1 by omega) _
    · rw [HSN2.out]
      have h := H4a.out.set ix (.int .i64 n0)
      rw [show (ints ns).set ix (.int .i64 n0) = ints (ns.set ix n0) by simp [ints, List.map_set]] at h
      exact h
  | false =>
    cases D0 with
    | true =>
      rw [show flagS false true = ⟨#[100, 101, 112, 116, 104]⟩ from rfl] at hfl
      subst hfl
      have HSN2 : Hid (stP rs rf rl ra rb lag start L (pre ++ [x]) = (ns.set ix n0, n0)) := by unfold Hid; rw [HSN.out]; rfl
      clear HSN HB3 HTV HRF
      gi_wp2_with (refine ⟨trivial, ?_⟩; gi_at_call 85; refine (CallsIn.inRound l (callsIn_wide.2 (HT.out _))).mono ?_; rintro e w1 ⟨rfl, hb1⟩; have HBW := Lib.hid hb1; have H2a := Lib.hid (H2.out.old hb1); have H3a := Lib.hid (H3.out.old hb1); have H4a := Lib.hid (H4.out.old hb1); have HRa := Lib.hid (HROW.out.old hb1); have c11 := H2a.out.cell 0; have d12 := H3a.out.cell 0; have d6 := HRa.out.cell 6; have fN := H4a.out.free ix; have cN := H4a.out.cellAt (j := ix) (by simpa [ints] using HNS.out); simp only [List.getElem?_cons_succ, List.getElem?_cons_zero] at c11 d12 d6; clear hb1 r0 r1 r2 r3 r4 s0 s1 s2 s3 s4 s5)
      refine ⟨((belowKO HBW.out).trans (KeepsOthers.setCell _ _ _)).from _, (HBW.out.mono H7.out.size).setCell (show w.heap.size ≤ v12.heap.size + 1 + 1 by omega) _, ?_, H3a.out.far (show v12.heap.size + 1 + 1 + 1 ≠ v12.heap.size + 1 + 1 by omega) _, ?_, (H5.out.old HBW.out).far (show w.heap.size ≠ v12.heap.size + 1 + 1 by omega) _, (H6.out.old HBW.out).far (show w.heap.size + 1 ≠ v12.heap.size + 1 + 1 by omega) _, (H7.out.trans (HBW.out.mono H7.out.size)).setCell (show w.heap.size ≤ v12.heap.size + 1 + 1 by omega) _⟩
      · rw [HSN2.out]; exact H2a.out.far (show v12.heap.size + 1 ≠ v12.heap.size + 1 + 1 by omega) _
      · rw [HSN2.out]
        have h := H4a.out.set ix (.int .i64 n0)
        rw [show (ints ns).set ix (.int .i64 n0) = ints (ns.set ix n0) by simp [ints, List.map_set]] at h
        exact h
    | false =>
      rw [show flagS false false = ⟨#[]⟩ from rfl] at hfl
      subst hfl
      obtain ⟨m, hm⟩ : ∃ m, m = tv - n0 := ⟨_, rfl⟩
      obtain ⟨q, hq⟩ : ∃ q, q = m / lag := ⟨_, rfl⟩
      obtain ⟨v, hv⟩ : ∃ v, v = n0 + q := ⟨_, rfl⟩
      have HSN2 : Hid (stP rs rf rl ra rb lag start L (pre ++ [x]) = (ns.set ix v, v)) := by unfold Hid; rw [HSN.out, hv, hq, hm]; rfl
      have hb2 := HB2.out; have hb3 := HB3.out; have htv := HTV.out; have hrf := HRF.out
      have hbv : -rf ≤ v ∧ v ≤ rf := by rw [hv, hq, hm]; simpa using hb3
      have e1 : IntKind.i64.wrap (tv - n0) = m := by rw [hm]; exact IntWalk.i64_in _ (by omega)
      have e2 : IntKind.i64.wrap (n0 + q) = v := by rw [← hv]; exact IntWalk.i64_in _ (by omega)
      have HQ : Hid (∀ V, Calls Tryz.prog 87 #[.agg #[.int .i64 m, .int .i64 lag]] V fun e w' => e = .returned (.int .i64 q) ∧ Below V.heap.size V w') := fun V => by rw [hq]; exact floorQ_any m lag V (by omega) (by have := HLAG.out; omega)
      clear hb2 hb3 htv hrf hbv hm hq hv HSN HB3 HTV HRF
      gi_wp2_with (refine ⟨trivial, ?_⟩; gi_at_call 85; refine (CallsIn.inRound l (callsIn_wide.2 (HT.out _))).mono ?_; rintro e w1 ⟨rfl, hb1⟩; have HBW := Lib.hid hb1; have H2a := Lib.hid (H2.out.old hb1); have H6a := Lib.hid (H6.out.old hb1); have c11 := H2a.out.cell 0; have f11 := H2a.out.free 0; have cl := H6a.out.cell 0; simp only [List.getElem?_cons_zero] at c11 cl; clear hb1 r0 r1 r2 r3 r4 s0 s1 s2 s3 s4 s5)
      gi_region_with_o (refine ⟨trivial, ?_⟩; gi_at_call 87; refine (CallsIn.inRound l (callsIn_wide.2 (HQ.out _))).mono ?_; rintro e w2 ⟨rfl, hb2⟩; have hb2' := HBW.out.trans (((Below.refl _ _).drew.trans hb2).mono HBW.out.size); have HBV := Lib.hid hb2'; have H2b := Lib.hid (H2.out.old hb2'); have H3b := Lib.hid (H3.out.old hb2'); have H4b := Lib.hid (H4.out.old hb2'); have HRb := Lib.hid (HROW.out.old hb2'); have k11 := H2b.out.cell 0; have g11 := H2b.out.free 0; have d12 := H3b.out.cell 0; have d6 := HRb.out.cell 6; have fN := H4b.out.free ix; have cN := H4b.out.cellAt (j := ix) (by simpa [ints] using HNS.out); simp only [List.getElem?_cons_succ, List.getElem?_cons_zero] at k11 d12 d6; clear hb2 hb2')
      all_goals gi_wp2
      all_goals
       have n2 : v12.heap.size + 1 ≠ v12.heap.size + 1 + 1 := by omega
       refine ⟨((belowKO HBV.out).trans ((KeepsOthers.setCell _ _ _).trans (KeepsOthers.setCell _ _ _))).from _, ((HBV.out.mono H7.out.size).setCell (show w.heap.size ≤ v12.heap.size + 1 by omega) _).setCell (show w.heap.size ≤ v12.heap.size + 1 + 1 by omega) _, ?_, (H3b.out.far (show v12.heap.size + 1 + 1 + 1 ≠ v12.heap.size + 1 by omega) _).far (show v12.heap.size + 1 + 1 + 1 ≠ v12.heap.size + 1 + 1 by omega) _, ?_, ((H5.out.old HBV.out).far (show w.heap.size ≠ v12.heap.size + 1 by omega) _).far (show w.heap.size ≠ v12.heap.size + 1 + 1 by omega) _, ((H6.out.old HBV.out).far (show w.heap.size + 1 ≠ v12.heap.size + 1 by omega) _).far (show w.heap.size + 1 ≠ v12.heap.size + 1 + 1 by omega) _, ((H7.out.trans (HBV.out.mono H7.out.size)).setCell (show w.heap.size ≤ v12.heap.size + 1 by omega) _).setCell (show w.heap.size ≤ v12.heap.size + 1 + 1 by omega) _⟩
       · rw [HSN2.out]; exact (H2b.out.set 0 (.int .i64 v)).far n2 _
       · rw [HSN2.out]
         have h := (H4b.out.far (p := ⟨v12.heap.size + 1, 0, none⟩) n2.symm (.int .i64 v)).set ix (.int .i64 v)
         rw [show (ints ns).set ix (.int .i64 v) = ints (ns.set ix v) by simp [ints, List.map_set]] at h
         exact h
 case hdone =>
  rintro D xs W hzD rfl ⟨h2, h3, h4, h5, h6, h7⟩ hD
  have hall := stP_all rs rf rl ra rb lag start L L.length (Nat.le_refl _)
  rw [List.take_of_length_le (by rw [List.length_finRange]; exact Nat.le_refl _), Nat.sub_self, List.replicate_zero, List.append_nil, List.take_of_length_le (by rw [foL_len]; exact Nat.le_refl _)] at hall
  rw [hall] at h4
  have c12 := h3.cell 0
  simp only [List.getElem?_cons_zero] at c12
  have H4 := Lib.hid h4; have H7 := Lib.hid h7; have HD := Lib.hid hD
  clear h2 h3 h4 h5 h6 h7 hall hD
  go_wp2_with fail
  refine ⟨by simp, .inl ⟨_, _, rfl, run_takeDeferred HD.out, ?_⟩⟩
  refine ⟨_, results_tt rfl _ _, v12.heap.size + 1 + 1, rfl, H4.out.keptM (grownBy_putObj' _ D (.deferred none)) (fun r e => by cases e; exact ⟨_, HD.out, rfl⟩), by omega, H7.out.trans (below_put (w := W7) HB7.out W D _ _ hzD HD.out rfl rfl)⟩
 case hstop =>
  rintro D c pre W _ _ h _
  exact h.elim
end Go.Proofs.YtaknlhepgeiekaaGreatDoor
