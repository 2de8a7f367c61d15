import Derived.Test.YtipligklkkiejaaGreatDoorM09
/- Contracts: spans widened by the reference. -/
namespace Go.Proofs.YtipligklkkiejaaGreatDoor
set_option linter.all false
open Go.RowKit Go.Fl
set_option linter.unusedVariables false
set_option linter.unusedSimpArgs false

set_option maxRecDepth 100000 in
set_option maxHeartbeats 600000 in
theorem widenR_any (B : Nat) (v : Value) (l : List (Int × Int)) (i : Int) (w : World) (hown : w.ownsRow B 93 2 v l.length (spanC l)) (hB : B ≤ w.heap.size) (hl : l.length ≤ 1000000) (hi : 0 ≤ i ∧ i ≤ 1000000000) :
    Calls Tryz.prog 66 #[v, .int .i64 i] w fun e w' => ∃ v', e = .returned v' ∧ w'.ownsRow B 93 2 v' (widL l i).length (spanC (widL l i)) ∧ Step w w' v v' := by
  obtain ⟨i0, hi0, hz0, hz1, hz2⟩ := info_parts info94
  rcases List.eq_nil_or_concat l with rfl | ⟨init, p, rfl⟩
  · have hv : v = .slice none 0 0 ∨ ∃ g cap, v = .slice (some ⟨g, 0, none⟩) 0 cap := by
      rcases hown.2 with ⟨h, _⟩ | ⟨g, cap, cur, h, _⟩
      · exact .inl h
      · exact .inr ⟨g, cap, h⟩
    have hw : Hid (widL [] i = [] ++ [(i, i + 1)]) := rfl
    have Hown := Lib.hid hown
    clear hown
    obtain ⟨A, c, rfl⟩ : ∃ A c, v = .slice A 0 c := by
      rcases hv with rfl | ⟨g, cap, rfl⟩
      · exact ⟨_, _, rfl⟩
      · exact ⟨_, _, rfl⟩
    clear hv
    go_enter Tryz.func66, Tryz.ntmps66
    go_wp2_with (at_builtin; refine wpList_append_own_at _ rfl _ _ 47 rfl B 93 i0 (.agg #[.int .i64 0, .int .i64 0]) 2 16 Tryz.underlying47 hi0 hz0 hz1 hz2 rfl (by decide) _ 0 [] rfl (Hown.out.alloc _) ⟨w.heap.size, 0, none⟩ 1 1 [.int .i64 i, .int .i64 (i + 1)] rfl rfl (news2 _ _ _ _ _ rfl) (by simp [Value.oneCell']) ?c3 ?c4 ?c5 ?_)
    case c3 => unfold maxLen; omega
    case c4 => omega
    case c5 => simp; omega
    intro v' w1 ho hg _ hat
    have Ho : Hid (w1.ownsRow B 93 2 v' (widL [] i).length (spanC (widL [] i))) := by unfold Hid; rw [hw.out, spanC_app]; simpa [spanC] using ho
    have Hs := Lib.hid (Step.of_alloc hg (by rw [World.size_alloc]; exact hat))
    clear ho hg hat
    go_wp2
    go_ret
    exact ⟨_, rfl, Ho.out, Hs.out⟩
  · obtain ⟨f, t⟩ := p
    rw [List.concat_eq_append] at *
    obtain ⟨g, cap, rfl, hBg, hgs⟩ := ownsRow.addr hown (by simp)
    have hlen : (init ++ [(f, t)]).length = init.length + 1 := by simp
    rw [hlen] at hown hl
    have hcell : w.cell? ⟨g, init.length * 2 + 1, none⟩ = some (.int .i64 t) := by
      rw [hown.cellAt _ (by omega), spanC_app, List.getElem?_append_right (by rw [spanC_length]; omega), spanC_length]
      have : init.length * 2 + 1 - init.length * 2 = 1 := by omega
      rw [this]; rfl
    have hfree := hown.frozenAt (init.length * 2 + 1)
    have hst := hown.stored (init.length * 2 + 1) (.int .i64 (i + 1))
    have Hown := Lib.hid hown
    have Hst := Lib.hid hst
    clear hown hst
    obtain ⟨k, hk⟩ : ∃ k, init.length = k := ⟨_, rfl⟩
    have Hk := Lib.hid hk
    rw [hk] at hcell hfree hl hlen
    clear hk
    have h1 : IntKind.i64.wrap ((k : Int) + 1 - 1) = (k : Int) := by rw [show (k : Int) + 1 - 1 = k by omega]; exact IntWalk.i64_in _ (by omega)
    by_cases hti : t = i
    · subst hti
      have hw : Hid (widL (init ++ [(f, t)]) t = init ++ [(f, t + 1)]) := by unfold Hid widL; simp
      rw [hlen]
      clear hlen
      go_enter Tryz.func66, Tryz.ntmps66
      go_wp2
      go_ret
      have e : (widL (init ++ [(f, t)]) t).length = k + 1 := by rw [hw.out, ← Hk.out]; simp
      have e2 : (spanC (init ++ [(f, t)])).set (k * 2 + 1) (.int .i64 (t + 1)) = spanC (widL (init ++ [(f, t)]) t) := by
        rw [hw.out, spanC_app, spanC_app, List.set_append_right _ _ (by rw [spanC_length, Hk.out]; omega), spanC_length, Hk.out]
        have : k * 2 + 1 - k * 2 = 1 := by omega
        rw [this]; rfl
      have h := Hst.out
      rw [Hk.out, e2] at h
      exact ⟨_, rfl, by rw [e]; exact h.1, h.2, .inl rfl⟩
    · have hti2 : (t == i) = false := by simpa using hti
      have hw : Hid (widL (init ++ [(f, t)]) i = (init ++ [(f, t)]) ++ [(i, i + 1)]) := by unfold Hid widL; simp [hti]
      have Hti := Lib.hid hti
      rw [Hk.out] at Hown
      rw [hlen]
      clear hlen hti Hst
      go_enter Tryz.func66, Tryz.ntmps66
      go_wp2_with (at_builtin; refine wpList_append_own_at _ rfl _ _ 47 rfl B 93 i0 (.agg #[.int .i64 0, .int .i64 0]) 2 16 Tryz.underlying47 hi0 hz0 hz1 hz2 rfl (by decide) _ (k + 1) (spanC (init ++ [(f, t)])) rfl (Hown.out.alloc _) ⟨w.heap.size, 0, none⟩ 1 1 [.int .i64 i, .int .i64 (i + 1)] rfl rfl (news2 _ _ _ _ _ rfl) (by simp [Value.oneCell']) ?c3 ?c4 ?c5 ?_)
      case c3 => unfold maxLen; omega
      case c4 => omega
      case c5 => simp; omega
      intro v' w1 ho hg _ hat
      have Ho : Hid (w1.ownsRow B 93 2 v' (widL (init ++ [(f, t)]) i).length (spanC (widL (init ++ [(f, t)]) i))) := by
        unfold Hid; rw [hw.out, spanC_app]
        have e : (init ++ [(f, t)] ++ [(i, i + 1)]).length = k + 1 + 1 := by rw [← Hk.out]; simp
        rw [e]; exact ho
      have Hs := Lib.hid (Step.of_alloc hg (by rw [World.size_alloc]; exact hat))
      clear ho hg hat
      go_wp2
      go_ret
      exact ⟨_, rfl, Ho.out, Hs.out⟩
end Go.Proofs.YtipligklkkiejaaGreatDoor
