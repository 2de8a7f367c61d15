import Derived.Test.YtphgfiihccofnaaGreatDoorM43
import Derived.Test.YtphgfiihccofnaaGreatDoorM34
/- The law of joins: what its walk wants. -/
namespace Go.Proofs.YtphgfiihccofnaaGreatDoor
set_option linter.all false
open Go.RowKit Go.Fl
set_option linter.unusedVariables false
set_option linter.unusedSimpArgs false

theorem whenI_off {b : Bool} {n : Int} (h : whenI b n = 0) (hn : n ≠ 0) : b = false := by
  cases b
  · rfl
  · exact absurd h hn
theorem marks_range {st sp : Int} {xs : List Nat} {ms : List (Int × ByteArray)} (h : recI st sp xs ms = 0) : ∀ m ∈ ms, 0 ≤ m.1 ∧ m.1 < (xs.length : Int) := by
  have h1 : marksI xs.length ms = 0 := firstI_allz h _ (by simp)
  have h2 : ¬ 16 < ms.length := by intro hl; rw [marksI, if_pos hl] at h1; cases h1
  rw [marksI, if_neg h2] at h1
  intro m hm
  obtain ⟨k, hk, rfl⟩ := List.mem_iff_getElem.1 hm
  have h3 : errAt xs.length ms k = 0 := firstI_allz h1 _ (by unfold errL; exact List.mem_map_of_mem (List.mem_range.2 hk))
  have h4 := whenI_off (firstI_allz h3 _ (List.mem_cons_self ..)) (by decide)
  rw [show ms.getD k (0, ByteArray.empty) = ms[k] by simp [List.getD, List.getElem?_eq_getElem hk]] at h4
  simp only [Bool.or_eq_false_iff, decide_eq_false_iff_not] at h4
  omega
theorem shift_none {st sp : Int} {xs : List Nat} {ms : List (Int × ByteArray)} (h : recI st sp xs ms = 0) (hx : xs.length ≤ 1000000) : ms.map (shiftM 0) = ms := by
  have hr := marks_range h
  conv => rhs; rw [← List.map_id ms]
  refine List.map_congr_left fun m hm => ?_
  have := hr m hm
  refine Prod.ext ?_ rfl
  show wrap64 (m.1 + 0) = m.1
  unfold wrap64
  omega

set_option maxRecDepth 100000 in
theorem recordJoins_ok (haw : AwakeOk) (st sp : Int) (A B : Option Addr) (c d : Nat) (xs : List Nat) (ms : List (Int × ByteArray)) (st2 sp2 : Int) (C D : Option Addr) (e1 e2 : Nat) (ys : List Nat) (ns : List (Int × ByteArray)) (w : World) (haW : Aw w) (hA : Rd w A (flts xs)) (hB : Rd w B (markC ms)) (hC : Rd w C (flts ys)) (hD : Rd w D (markC ns)) (hx : xs.length ≤ 9223372036854775807) (hmm : ms.length ≤ 9223372036854775807) (hy : ys.length ≤ 9223372036854775807) (hnn : ns.length ≤ 9223372036854775807)
    (hlc : xs.length ≤ c) (hca : A = none → c = 0) (hlc2 : ys.length ≤ e1) (hca2 : C = none → e1 = 0) (hdb : B = none → d = 0) :
    Calls Tryz.prog 4 #[.agg #[.int .i64 st, .int .i64 sp, .slice A xs.length c, .slice B ms.length d], .agg #[.int .i64 st2, .int .i64 sp2, .slice C ys.length e1, .slice D ns.length e2]] w fun e w' => e = .returned (.bool true) ∧ Below w.heap.size w w' := by
  cases hs : shortRB xs.length ms
  · exact joins_far1 haw st sp A B c d xs ms st2 sp2 C D e1 e2 ys ns w haW hA hB hC hD hx hmm hy hnn hs
  cases hs2 : shortRB ys.length ns
  · exact joins_far2 haw st sp A B c d xs ms st2 sp2 C D e1 e2 ys ns w haW hA hB hC hD hx hmm hy hnn hs hs2
  obtain ⟨hl, hm⟩ := shortRB_len hs
  obtain ⟨hl2, hm2⟩ := shortRB_len hs2
  have hG1 := fun (W : World) (h1 : Rd W A (flts xs)) (h2 : Rd W B (markC ms)) => given_ok st sp A B c d xs ms W h1 h2 (by omega) (by omega) hca
  have hG2 := fun (W : World) (h1 : Rd W C (flts ys)) (h2 : Rd W D (markC ns)) => given_ok st2 sp2 C D e1 e2 ys ns W h1 h2 (by omega) (by omega) hca2
  have hC1 := fun (W : World) (h1 : Rd W A (flts xs)) (h2 : Rd W B (markC ms)) => checkRecordingR_any st sp A B xs.length c ms.length d xs ms W h1 h2 rfl rfl hlc hx hmm
  have hC2 := fun (W : World) (h1 : Rd W C (flts ys)) (h2 : Rd W D (markC ns)) => checkRecordingR_any st2 sp2 C D ys.length e1 ns.length e2 ys ns W h1 h2 rfl rfl hlc2 hy hnn
  by_cases hJ : jointE st sp xs ms st2 sp2 ys ns = 0
  · have hz := firstI_allz hJ
    have h1 : recI st sp xs ms = 0 := hz _ (by simp)
    have h2 : recI st2 sp2 ys ns = 0 := hz _ (by simp)
    have hp : firstI (pairE st sp xs.length ms.length st2 sp2 ys.length ns.length) = 0 := firstI_zeros (fun z h => hz z (by simp [h]))
    have k1 := whenI_off (hz (whenI (sp != sp2) 2) (by simp [pairE])) (by decide)
    have k2 := whenI_off (hz (whenI (st2 != tickI st sp xs.length) 11) (by simp [pairE])) (by decide)
    have k3 := whenI_off (hz (whenI (decide ((4096 : Int) < (xs.length : Int) + (ys.length : Int))) 5) (by simp [pairE])) (by decide)
    have k4 := whenI_off (hz (whenI (decide ((16 : Int) < (ms.length : Int) + (ns.length : Int))) 5) (by simp [pairE])) (by decide)
    have e1' : sp = sp2 := by simpa using k1
    have e2' : st2 = tickI st sp xs.length := by simpa using k2
    have e3 : xs.length + ys.length ≤ 4096 := by have := of_decide_eq_false k3; omega
    have e4 : ms.length + ns.length ≤ 16 := by have := of_decide_eq_false k4; omega
    subst e1'
    have hone : firstI [recI st sp xs ms, recI st2 sp ys ns] = 0 := by rw [h1, h2]; rfl
    have hcl : (xs ++ ys).length = xs.length + ys.length := List.length_append
    have hml : (ms.map (shiftM 0) ++ ns.map (shiftM xs.length)).length = ms.length + ns.length := by simp
    refine joins_walk haw st sp A B c d xs ms st2 sp C D e1 e2 ys ns w haW hA hB hC hD hx hmm hy hnn hs hs2 st sp 0 _ _ _ (xs ++ ys) (ms.map (shiftM 0) ++ ns.map (shiftM xs.length)) hG1 hG2 ?_ hC1 hC2 rfl ?_ (fun h => absurd hone h) ?_ (by rw [hcl]; omega) (by rw [hml]; omega)
    · intro W GA gc GB gd HA hc HB hd g1 g2 g3 g4
      refine (joined_ok st sp GA GB HA HB xs.length gc ms.length gd ys.length hc ns.length hd xs ys ms ns st2 W g1 g2 g3 g4 rfl rfl rfl rfl h1 (by rw [← e2']; exact h2) e2' e3 e4).mono ?_
      rintro e w' ⟨g, v, rfl, hr, ho, hg, hb⟩
      obtain ⟨CB, cd, rfl, -⟩ := owned_slice ho
      refine ⟨some ⟨g, 0, none⟩, xs.length + ys.length, CB, cd, by rw [hcl, hml], ?_, by rw [hml]; exact ho, hb⟩
      have hr' := row_owns hr 1 (xs.length + ys.length) W.heap.size (by simp [flts]) (by unfold maxLen; omega) hg
      rw [hcl]; exact hr'
    · intro _ W g1 g2 g3 g4
      refine (joinedR_ok st sp A B C D c d e1 e2 xs ys ms ns st2 sp W g1 g2 g3 g4 (by omega) (by omega) (by omega) (by omega) hca hdb hp).mono ?_
      rintro e w' ⟨v, u, rfl, ho, hu, hb⟩
      obtain ⟨QA, qc, rfl, -⟩ := owned_slice ho
      obtain ⟨QB, qd, rfl, -⟩ := owned_slice hu
      have hu2 := hu
      rw [show ms ++ ns.map (shiftM xs.length) = ms.map (shiftM 0) ++ ns.map (shiftM xs.length) by rw [shift_none h1 (by omega)]] at hu2
      exact ⟨QA, qc, QB, qd, by rw [hcl, hml], by rw [hcl]; exact ho, by rw [hml]; exact hu2, hb⟩
    · refine sameF_refl _ (fun x hx => ?_)
      rcases List.mem_append.1 hx with h | h
      · exact (samps_zero (recI_samps h1)).2 x h
      · exact (samps_zero (recI_samps h2)).2 x h
  · refine joins_walk haw st sp A B c d xs ms st2 sp2 C D e1 e2 ys ns w haW hA hB hC hD hx hmm hy hnn hs hs2 0 0 (jointE st sp xs ms st2 sp2 ys ns) _ _ _ [] [] hG1 hG2 ?_ hC1 hC2 rfl ?_ ?_ rfl (by simp) (by simp)
    · intro W GA gc GB gd HA hc HB hd g1 g2 g3 g4
      refine (joined_bad st sp GA GB HA HB xs.length gc ms.length gd ys.length hc ns.length hd xs ys ms ns st2 sp2 W g1 g2 g3 g4 rfl rfl rfl rfl (by omega) (by omega) (by omega) (by omega) hJ).mono ?_
      rintro e w' ⟨rfl, hb⟩
      exact ⟨none, 0, none, 0, rfl, World.ownsRow_nil _ _ _ _, World.ownsRow_nil _ _ _ _, hb⟩
    · intro hone W g1 g2 g3 g4
      have hz := firstI_allz hone
      have h1 : recI st sp xs ms = 0 := hz _ (by simp)
      have h2 : recI st2 sp2 ys ns = 0 := hz _ (by simp)
      have hje : jointE st sp xs ms st2 sp2 ys ns = firstI (pairE st sp xs.length ms.length st2 sp2 ys.length ns.length) := by
        unfold jointE; rw [firstI_cons, if_pos h1, firstI_cons, if_pos h2]
      rw [hje] at hJ ⊢
      refine (joinedR_bad st sp A B C D c d e1 e2 xs ys ms ns st2 sp2 W g1 g2 g3 g4 (by omega) (by omega) (by omega) (by omega) hJ).mono ?_
      rintro e w' ⟨rfl, hb⟩
      exact ⟨none, 0, none, 0, rfl, World.ownsRow_nil _ _ _ _, World.ownsRow_nil _ _ _ _, hb⟩
    · intro hone
      refine ⟨rfl, rfl, rfl, rfl, ?_⟩
      have h := firstI_app [recI st sp xs ms, recI st2 sp2 ys ns] (pairE st sp xs.length ms.length st2 sp2 ys.length ns.length)
      rw [if_neg hone] at h
      exact h
end Go.Proofs.YtphgfiihccofnaaGreatDoor
