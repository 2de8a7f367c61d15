import Derived.Test.YtaeebedchbkniaaGreatDoorVM
import Derived.Test.YtaeebedchbkniaaGreatDoorM39
import Derived.Test.YtaeebedchbkniaaGreatDoorVK
import Derived.Test.YtaeebedchbkniaaGreatDoorM38
namespace Go.Proofs.YtaeebedchbkniaaGreatDoor
set_option linter.all false
open Go.RowKit Go.Fl

theorem widL_app (l : List (Int × Int)) (f i : Int) : widL (l ++ [(f, i)]) i = l ++ [(f, i + 1)] := by unfold widL; simp
theorem widL_new (l : List (Int × Int)) (i : Int) (h : ∀ x ∈ l, x.2 < i) : widL l i = l ++ [(i, i + 1)] := by
 unfold widL
 cases hl : l.getLast? with
 | none => rw [List.getLast?_eq_none_iff] at hl; subst hl; rfl
 | some p =>
   have hm := h p (List.mem_of_getLast? hl)
   show (if p.2 = i then _ else _) = _
   rw [if_neg (by omega)]
theorem getD_same (z : List Int) (k : Nat) (h : k < z.length) (d e : Int) : z.getD k d = z.getD k e := by
 rw [List.getD_eq_getElem?_getD, List.getD_eq_getElem?_getD, List.getElem?_eq_getElem h]; rfl
theorem bef_getD (z : List Int) (k : Nat) (h : k + 1 < z.length) : (befI z).getD (k + 1) 0 = z.getD k 1 := by
 unfold befI
 rw [List.getD_eq_getElem?_getD, List.getElem?_cons_succ, List.getElem?_take, if_pos (by omega), List.getD_eq_getElem?_getD, List.getElem?_eq_getElem (by omega)]; rfl
structure CrInv (z : List Int) (k : Nat) : Prop where
 perm : (crS z k).Perm (spL (fun k => z.getD k 1 == 0) k ++ crL z (min (k + 1) z.length))
 zero : 0 < k → z.getD (k - 1) 1 = 0 → ∃ R R' f, crS z k = R ++ [(f, (k : Int))] ∧ spL (fun k => z.getD k 1 == 0) k = R' ++ [(f, (k : Int))]
 notz : ¬ (0 < k ∧ z.getD (k - 1) 1 = 0) → ∀ x ∈ spL (fun k => z.getD k 1 == 0) k, x.2 < (k : Int)
 ends : ∀ x ∈ spL (fun k => z.getD k 1 == 0) k, x.2 ≤ (k : Int)
 first : ∀ x ∈ crS z k, x.1 < (k : Int)
 sort : (crS z k).Pairwise fun a b : Int × Int => a.1 < b.1
theorem pw_app {l : List (Int × Int)} {p : Int × Int} (h : l.Pairwise fun a b : Int × Int => a.1 < b.1) (hp : ∀ x ∈ l, x.1 < p.1) : (l ++ [p]).Pairwise fun a b : Int × Int => a.1 < b.1 := by
 rw [List.pairwise_append]
 exact ⟨h, List.pairwise_singleton _ _, fun a ha b hb => by rw [List.mem_singleton] at hb; subst hb; exact hp a ha⟩
theorem pw_last {l : List (Int × Int)} {p q : Int × Int} (h : (l ++ [p]).Pairwise fun a b : Int × Int => a.1 < b.1) (hq : q.1 = p.1) : (l ++ [q]).Pairwise fun a b : Int × Int => a.1 < b.1 := by
 rw [List.pairwise_append] at h
 exact pw_app h.1 (fun x hx => by rw [hq]; exact h.2.2 x hx p (List.mem_singleton.2 rfl))
theorem perm_end {S A C : List (Int × Int)} {p : Int × Int} (h : S.Perm (A ++ C)) : (S ++ [p]).Perm ((A ++ [p]) ++ C) := by
 have h1 : (S ++ [p]).Perm (p :: S) := List.perm_append_comm
 have h2 : ((A ++ [p]) ++ C).Perm (p :: (A ++ C)) := by rw [List.append_assoc]; exact List.perm_middle
 exact h1.trans ((h.cons p).trans h2.symm)
theorem perm_cut {S A C : List (Int × Int)} {p : Int × Int} (h : (S ++ [p]).Perm ((A ++ [p]) ++ C)) : S.Perm (A ++ C) := by
 have h1 : (S ++ [p]).Perm (p :: S) := List.perm_append_comm
 have h2 : ((A ++ [p]) ++ C).Perm (p :: (A ++ C)) := by rw [List.append_assoc]; exact List.perm_middle
 exact (List.perm_cons p).1 (h1.symm.trans (h.trans h2))
theorem cr_none (z : List Int) (k : Nat) (h : ¬ (k + 1 < z.length ∧ z.getD k 1 * z.getD (k + 1) 1 < 0)) : crL z (min (k + 2) z.length) = crL z (min (k + 1) z.length) := by
 by_cases hl : k + 1 < z.length
 · rw [Nat.min_eq_left (by omega), Nat.min_eq_left (by omega), crL, if_neg]
   rw [bef_getD z k hl, getD_same z (k + 1) hl 0 1, Int.mul_comm]
   exact fun e => h ⟨hl, e⟩
 · rw [Nat.min_eq_right (by omega), Nat.min_eq_right (by omega)]
theorem cr_some (z : List Int) (k : Nat) (h : k + 1 < z.length ∧ z.getD k 1 * z.getD (k + 1) 1 < 0) : crL z (min (k + 2) z.length) = crL z (min (k + 1) z.length) ++ [((k : Int), (k : Int) + 2)] := by
 rw [Nat.min_eq_left (by omega), Nat.min_eq_left (by omega), crL, if_pos]
 · have e1 : ((k + 1 : Nat) : Int) - 1 = k := by omega
   have e2 : ((k + 1 : Nat) : Int) + 1 = (k : Int) + 2 := by omega
   rw [e1, e2]
 · rw [bef_getD z k h.1, getD_same z (k + 1) h.1 0 1, Int.mul_comm]; exact h.2
theorem crInv_zero (z : List Int) : CrInv z 0 := by
 have e : crL z (min 1 z.length) = [] := by
  by_cases h : z.length = 0
  · rw [h]; rfl
  · rw [Nat.min_eq_left (by omega), crL, if_neg (by show ¬ _ * (0 : Int) < 0; rw [Int.mul_zero]; omega)]; rfl
 exact ⟨by rw [show 0 + 1 = 1 from rfl, e]; exact List.Perm.nil, fun h => absurd h (by omega), fun _ x hx => absurd hx List.not_mem_nil, fun x hx => absurd hx List.not_mem_nil, fun x hx => absurd hx List.not_mem_nil, List.Pairwise.nil⟩
theorem crInv_step (z : List Int) (k : Nat) (h : CrInv z k) : CrInv z (k + 1) := by
 have hk : ((k + 1 : Nat) : Int) = (k : Int) + 1 := by omega
 by_cases hz : z.getD k 1 = 0
 · have hno : ¬ (k + 1 < z.length ∧ z.getD k 1 * z.getD (k + 1) 1 < 0) := by rw [hz, Int.zero_mul]; omega
   have hB : ∀ l, crB z k l = l := fun l => by unfold crB; rw [if_neg hno]
   have hp : spL (fun k => z.getD k 1 == 0) (k + 1) = widL (spL (fun k => z.getD k 1 == 0) k) (k : Int) := by rw [spL, hz]; rfl
   have key : ∃ R R' f, crS z (k + 1) = R ++ [(f, (k : Int) + 1)] ∧ spL (fun k => z.getD k 1 == 0) (k + 1) = R' ++ [(f, (k : Int) + 1)] ∧ R.Perm (R' ++ crL z (min (k + 1) z.length)) ∧ (R ++ [(f, (k : Int) + 1)]).Pairwise (fun a b : Int × Int => a.1 < b.1) ∧ (∀ x ∈ R', x.2 ≤ (k : Int)) ∧ f ≤ (k : Int) := by
    rw [hp, crS, hB]
    unfold crA
    rw [if_pos hz]
    by_cases h1 : 0 < k ∧ z.getD (k - 1) 1 = 0
    · obtain ⟨R, R', f, e1, e2⟩ := h.zero h1.1 h1.2
      rw [if_pos h1, e1, e2, setL_app, widL_app]
      have hpm := h.perm
      rw [e1, e2] at hpm
      have hs := h.sort
      rw [e1] at hs
      refine ⟨R, R', f, rfl, rfl, perm_cut hpm, pw_last hs rfl, fun x hx => h.ends x (by rw [e2]; exact List.mem_append_left _ hx), ?_⟩
      have := h.first (f, (k : Int)) (by rw [e1]; exact List.mem_append_right _ (List.mem_singleton.2 rfl))
      simp at this; omega
    · rw [if_neg h1, widL_new _ _ (h.notz h1)]
      exact ⟨_, _, (k : Int), rfl, rfl, h.perm, pw_app h.sort h.first, h.ends, Int.le_refl _⟩
   obtain ⟨R, R', f, e1, e2, hpm, hs, he, hf⟩ := key
   refine ⟨?_, ?_, ?_, ?_, ?_, ?_⟩
   · rw [e1, e2, cr_none z k hno]; exact perm_end hpm
   · intro _ _; exact ⟨R, R', f, by rw [e1, hk], by rw [e2, hk]⟩
   · intro hn; exact absurd ⟨Nat.succ_pos k, by simpa using hz⟩ hn
   · intro x hx
     rw [e2, List.mem_append, List.mem_singleton] at hx
     rcases hx with hx | rfl
     · have := he x hx; omega
     · show (k : Int) + 1 ≤ _; omega
   · intro x hx
     rw [e1] at hx
     rw [List.mem_append, List.mem_singleton] at hx
     rcases hx with hx | rfl
     · rw [List.pairwise_append] at hs
       have := hs.2.2 x hx _ (List.mem_singleton.2 rfl)
       simp at this; omega
     · show f < _; omega
   · rw [e1]; exact hs
 · have hA : ∀ l, crA z k l = l := fun l => by unfold crA; rw [if_neg hz]
   have hp : spL (fun k => z.getD k 1 == 0) (k + 1) = spL (fun k => z.getD k 1 == 0) k := by
    rw [spL, if_neg]; simpa using hz
   have hzn : ¬ z.getD (k + 1 - 1) 1 = 0 := by simpa using hz
   by_cases hc : k + 1 < z.length ∧ z.getD k 1 * z.getD (k + 1) 1 < 0
   · have hS : crS z (k + 1) = crS z k ++ [((k : Int), (k : Int) + 2)] := by rw [crS, hA]; unfold crB; rw [if_pos hc]
     refine ⟨?_, fun _ e => absurd e hzn, ?_, ?_, ?_, ?_⟩
     · rw [hS, hp, cr_some z k hc, ← List.append_assoc]
       exact h.perm.append_right _
     · intro _ x hx; rw [hp] at hx; have := h.ends x hx; omega
     · intro x hx; rw [hp] at hx; have := h.ends x hx; omega
     · intro x hx
       rw [hS, List.mem_append, List.mem_singleton] at hx
       rcases hx with hx | rfl
       · have := h.first x hx; omega
       · show (k : Int) < _; omega
     · rw [hS]; exact pw_app h.sort h.first
   · have hS : crS z (k + 1) = crS z k := by rw [crS, hA]; unfold crB; rw [if_neg hc]
     refine ⟨?_, fun _ e => absurd e hzn, ?_, ?_, ?_, ?_⟩
     · rw [hS, hp, cr_none z k hc]; exact h.perm
     · intro _ x hx; rw [hp] at hx; have := h.ends x hx; omega
     · intro x hx; rw [hp] at hx; have := h.ends x hx; omega
     · intro x hx; rw [hS] at hx; have := h.first x hx; omega
     · rw [hS]; exact h.sort
theorem crInv_all (z : List Int) (k : Nat) : CrInv z k := by
 induction k with
 | zero => exact crInv_zero z
 | succ k ih => exact crInv_step z k ih
theorem pw_same {l : List (Int × Int)} (h : l.Pairwise fun a b : Int × Int => a.1 < b.1) {a b : Int × Int} (ha : a ∈ l) (hb : b ∈ l) (e : a.1 = b.1) : a = b := by
 induction l with
 | nil => cases ha
 | cons c l ih =>
   rw [List.pairwise_cons] at h
   rw [List.mem_cons] at ha hb
   rcases ha with rfl | ha <;> rcases hb with rfl | hb
   · rfl
   · have := h.1 b hb; omega
   · have := h.1 a ha; omega
   · exact ih h.2 ha hb
theorem crossings_same (z : List Int) (S : List (Int × Int)) (hp : S.Perm (spL (fun k => z.getD k 1 == 0) z.length ++ crL z z.length)) (hs : S.Pairwise (fun a b : Int × Int => a.1 ≤ b.1)) : S = crS z z.length := by
 have h := crInv_all z z.length
 have h1 := h.perm
 rw [Nat.min_eq_right (by omega)] at h1
 have h2 : S.Perm (crS z z.length) := hp.trans h1.symm
 refine List.Perm.eq_of_pairwise (le := fun a b : Int × Int => a.1 ≤ b.1) ?_ hs (h.sort.imp (fun {a b} g => Int.le_of_lt g)) h2
 intro a b ha hb g1 g2
 exact pw_same h.sort (h2.mem_iff.1 ha) hb (Int.le_antisymm g1 g2)

set_option maxRecDepth 100000 in
set_option maxHeartbeats 4000000 in
theorem toneSpans_any (rs rf rl ra rb : Int) (A : Option Addr) (c : Nat) (L : List Sg) (w : World) (hA : AwT w) (hL : Rd w A (sgC L)) : Calls Tryz.prog 4 #[.agg #[.int .i64 rs, .int .i64 rf, .int .i64 rl, .int .i64 ra, .int .i64 rb], .slice A L.length c] w fun e w' => e = .returned (.bool true) ∧ Below w.heap.size w w' := by
 cases hsh : (decide (L.length ≤ 20) || decide (L.length = 257))
 · exact spans_out rs rf rl ra rb A L.length c (sgC L) w hA hL hsh
 · have hm : L.length ≤ 257 := by
    rw [Bool.or_eq_true, decide_eq_true_eq, decide_eq_true_eq] at hsh
    omega
   have hm2 : L.length ≤ 1000000 := by omega
   obtain ⟨E1, hE1⟩ : ∃ E1, E1 = sgsE L := ⟨_, rfl⟩
   obtain ⟨E2, hE2⟩ : ∃ E2, E2 = firstI [recE rs rf rl ra rb, sgsE L] := ⟨_, rfl⟩
   have hsgs : sgsE L = 0 → (∀ s ∈ L, SigG s.a s.b s.c s.d s.x s.y) ∧ 0 < L.length ∧ L.length ≤ 256 := fun h => ⟨(sgs_good h).2.2, (sgs_good h).1, (sgs_good h).2.1⟩
   have hSg : ∀ W, Rd W A (sgC L) → Calls Tryz.prog 18 #[.slice A L.length c] W fun e w' => ∃ As cs, e = .returned (.slice As L.length cs) ∧ Rd w' As (sgC L) ∧ Below W.heap.size W w' := fun W hW =>
    (signals_any A c L W hW hm2).mono fun e w' ⟨v, h1, h2, h3⟩ => by
      obtain ⟨As, cs, rfl, hr⟩ := owned_sliceT h2
      exact ⟨As, cs, h1, hr, h3⟩
   have hX : ∃ XS : List (Int × Int), (∀ As cs W, Rd W As (sgC L) → Calls Tryz.prog 23 #[.slice As L.length cs] W fun e w' => ∃ Ax cx, e = .returned (.tuple #[.slice Ax XS.length cx, .int .i64 E1]) ∧ Rd w' Ax (spanC XS) ∧ Below W.heap.size W w') ∧ (E1 = 0 → ∀ W, Rd W A (sgC L) → Calls Tryz.prog 25 #[.slice A L.length c] W fun e w' => ∃ Ar cr, e = .returned (.slice Ar XS.length cr) ∧ Rd w' Ar (spanC XS) ∧ Below W.heap.size W w') ∧ (E1 ≠ 0 → XS = [] ∧ XS.length = 0) ∧ XS.length ≤ 1000000 := by
    by_cases h : E1 = 0
    · obtain ⟨hg, hn⟩ := hsgs (by rw [← hE1]; exact h)
      have hl := crS_len (L.map sgn) L.length
      refine ⟨crS (L.map sgn) L.length, fun As cs W hW => ?_, fun _ W hW => ?_, fun hn => absurd h hn, by omega⟩
      · rw [h]
        exact (crossings_ok E1 As cs L W hW hm2 hE1 h hg hn).mono fun e w' ⟨A2, c2, S, h1, h2, h3, h4, h5⟩ => by
         have e1 : S = crS (L.map sgn) L.length := by
          have k := crossings_same (L.map sgn) S (by rw [List.length_map]; exact h2) h3
          rw [List.length_map] at k
          exact k
         rw [e1] at h1 h4
         exact ⟨A2, c2, h1, h4, h5⟩
      · exact (crossingsR_any A c L W hW hm2 hg).mono fun e w' ⟨v, h1, h2, h3⟩ => by
         obtain ⟨Ar, cr, rfl, hr⟩ := owned_sliceT h2
         exact ⟨Ar, cr, h1, hr, h3⟩
    · refine ⟨[], fun As cs W hW => ?_, fun hn => absurd hn h, fun _ => ⟨rfl, rfl⟩, by decide⟩
      exact (crossings_bad E1 As cs L W hW hm2 hE1 h).mono fun e w' ⟨h1, h2⟩ => ⟨none, 0, h1, fun j v hv => by simp [spanC] at hv, h2⟩
   have hY : ∃ YS : List (Int × Int), (∀ As cs W, Rd W As (sgC L) → Calls Tryz.prog 24 #[.agg #[.int .i64 rs, .int .i64 rf, .int .i64 rl, .int .i64 ra, .int .i64 rb], .slice As L.length cs] W fun e w' => ∃ Af cf, e = .returned (.tuple #[.slice Af YS.length cf, .int .i64 E2]) ∧ Rd w' Af (spanC YS) ∧ Below W.heap.size W w') ∧ (E2 = 0 → ∀ W, Rd W A (sgC L) → Calls Tryz.prog 26 #[.agg #[.int .i64 rs, .int .i64 rf, .int .i64 rl, .int .i64 ra, .int .i64 rb], .slice A L.length c] W fun e w' => ∃ Ar cr, e = .returned (.slice Ar YS.length cr) ∧ Rd w' Ar (spanC YS) ∧ Below W.heap.size W w') ∧ (E2 ≠ 0 → YS = [] ∧ YS.length = 0) ∧ YS.length ≤ 1000000 := by
    by_cases h : E2 = 0
    · have h2 := h
      rw [hE2] at h2
      obtain ⟨h3, h4⟩ := fI2 h2
      have hR := rec_good h3
      obtain ⟨hg, hn⟩ := hsgs h4
      have hl := spL_len (fgB rl ra rb L) L.length
      refine ⟨spL (fgB rl ra rb L) L.length, fun As cs W hW => ?_, fun _ W hW => ?_, fun hn => absurd h hn, by omega⟩
      · rw [h]
        exact flagged_ok rs rf rl ra rb E2 As cs L W hW hm2 hE2 h hR hg
      · exact (flaggedR_any rs rf rl ra rb A c L W hW hm2 hR hg).mono fun e w' ⟨v, h1, h2, h3⟩ => by
         obtain ⟨Ar, cr, rfl, hr⟩ := owned_sliceT h2
         exact ⟨Ar, cr, h1, hr, h3⟩
    · refine ⟨[], fun As cs W hW => ?_, fun hn => absurd hn h, fun _ => ⟨rfl, rfl⟩, by decide⟩
      exact (flagged_bad rs rf rl ra rb E2 As cs L W hW hm2 hE2 h).mono fun e w' ⟨h1, h2⟩ => ⟨none, 0, h1, fun j v hv => by simp [spanC] at hv, h2⟩
   obtain ⟨XS, hX1, hX2, hX3, hX4⟩ := hX
   obtain ⟨YS, hY1, hY2, hY3, hY4⟩ := hY
   exact spans_law rs rf rl ra rb A L.length c (sgC L) (recE rs rf rl ra rb) E1 E2 XS YS XS.length YS.length w hA hL hsh
    (fun W => checkReceiverR_any rs rf rl ra rb W) hSg hX1 hY1 (fun W hW => by rw [hE1]; exact checkSignalsR_any A c L W hW hm2) (by rw [hE1, hE2]) hX2 hX3 rfl hX4 hY2 hY3 rfl hY4
end Go.Proofs.YtaeebedchbkniaaGreatDoor
