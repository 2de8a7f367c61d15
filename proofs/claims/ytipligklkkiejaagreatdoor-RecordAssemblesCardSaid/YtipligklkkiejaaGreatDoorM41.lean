import Derived.Test.YtipligklkkiejaaGreatDoorM40
import Derived.Test.YtipligklkkiejaaGreatDoorM15
import Derived.Test.YtipligklkkiejaaGreatDoorM12
/- Contracts: packets of the reference as those of the program; their errors by the reference; what both assemble is the same. -/
namespace Go.Proofs.YtipligklkkiejaaGreatDoor
set_option linter.all false
open Go.RowKit Go.Fl
set_option linter.unusedVariables false
set_option linter.unusedSimpArgs false

set_option maxRecDepth 100000 in
set_option maxHeartbeats 2000000 in
theorem sent_any (A : Option Addr) (n c : Nat) (ps : List PkT) (w : World) (hA : Rd w A (pksC ps)) (h8 : pks8 ps) (hn : n = ps.length) (hx : ps.length ≤ 1000000) :
    Calls Tryz.prog 23 #[.slice A n c] w fun e w' => ∃ v, e = .returned v ∧ w'.ownsRow w.heap.size 32 11 v ps.length (pksC ps) ∧ Below w.heap.size w w' := by
  subst hn
  have HA := Lib.hid hA; have H8 := Lib.hid h8
  clear hA h8
  go_enter Tryz.func23, Tryz.ntmps23
  go_wp2
  go_loopg [3, 8] ps.length (fun g u i wr => ∃ k : Nat, k ≤ ps.length ∧ i = .int .i64 k ∧ g = ps.length - k ∧ Hid (wr.ownsRow w.heap.size 32 11 u k (pksC (ps.take k))) ∧ Hid (Below w.heap.size w wr))
  case atStart => exact ⟨0, by omega, rfl, rfl, World.ownsRow_nil _ _ _ _, Below.refl _ _⟩
  case round =>
    obtain ⟨k, hk, rfl, hgk, HO, Hb⟩ := hrel
    by_cases hlt : k < ps.length
    · obtain ⟨b, off, hAb, hc⟩ := Rd.flat (HA.out.below Hb.out) (fun p hp => pkV_length (H8.out p hp)) (by decide) hlt
      subst hAb
      obtain ⟨st, ct, ln, x0, x1, x2, x3, x4, x5, x6, x7, hp⟩ := pk_form (H8.out _ (List.getElem_mem hlt))
      rw [hp] at hc
      have c0 := hc 0 _ rfl; have c1 := hc 1 _ rfl; have c2 := hc 2 _ rfl; have c3 := hc 3 _ rfl; have c4 := hc 4 _ rfl; have c5 := hc 5 _ rfl; have c6 := hc 6 _ rfl; have c7 := hc 7 _ rfl; have c8 := hc 8 _ rfl; have c9 := hc 9 _ rfl; have c10 := hc 10 _ rfl
      rw [Nat.add_zero] at c0
      have HT : Hid (pksC (ps.take (k + 1)) = pksC (ps.take k) ++ [.int .i64 st, .int .i64 ct, .int .i64 ln, .float .f32 x0, .float .f32 x1, .float .f32 x2, .float .f32 x3, .float .f32 x4, .float .f32 x5, .float .f32 x6, .float .f32 x7]) := by
        unfold Hid; rw [pksC_take ps k hlt, hp]; rfl
      have hzr : w.heap.size ≤ wr.heap.size := Hb.out.size
      clear hc hp
      go_wp2_with (at_builtin; refine wpList_app rfl _ _ 46 rfl w.heap.size 32 (.agg #[.int .i64 0, .int .i64 0, .int .i64 0, .float .f32 0, .float .f32 0, .float .f32 0, .float .f32 0, .float .f32 0, .float .f32 0, .float .f32 0, .float .f32 0]) 11 56 Tryz.underlying46 info54w rfl (by decide) _ k (pksC (ps.take k)) rfl ((HO.out.alloc _).alloc _) (some ⟨wr.heap.size + 1, 0, none⟩) 1 1 [.int .i64 st, .int .i64 ct, .int .i64 ln, .float .f32 x0, .float .f32 x1, .float .f32 x2, .float .f32 x3, .float .f32 x4, .float .f32 x5, .float .f32 x6, .float .f32 x7] rfl (fun h => by cases h) ?c0 rfl (by simp [Value.oneCell']) ?d2 ?d3 ?d4 ?_)
      case c0 =>
        have h1 := Rd.row (Row.new (wr.alloc (.cells #[.int .i64 st, .int .i64 ct, .int .i64 ln, .float .f32 x0, .float .f32 x1, .float .f32 x2, .float .f32 x3, .float .f32 x4, .float .f32 x5, .float .f32 x6, .float .f32 x7] 27)) 32 [.int .i64 st, .int .i64 ct, .int .i64 ln, .float .f32 x0, .float .f32 x1, .float .f32 x2, .float .f32 x3, .float .f32 x4, .float .f32 x5, .float .f32 x6, .float .f32 x7])
        rw [World.size_alloc] at h1
        exact h1
      case d2 => unfold maxLen; omega
      case d3 => omega
      case d4 => first | omega | (simp; omega)
      intro v1 w1 hown1 hg1
      have HB1 : Hid (Below w.heap.size w w1) := ((Hb.out.alloc Hb.out.size (.cells #[.int .i64 st, .int .i64 ct, .int .i64 ln, .float .f32 x0, .float .f32 x1, .float .f32 x2, .float .f32 x3, .float .f32 x4, .float .f32 x5, .float .f32 x6, .float .f32 x7] 27)).alloc (by simp; omega) (.cells #[.int .i64 st, .int .i64 ct, .int .i64 ln, .float .f32 x0, .float .f32 x1, .float .f32 x2, .float .f32 x3, .float .f32 x4, .float .f32 x5, .float .f32 x6, .float .f32 x7] 32)).grown hg1 (by simp; omega) (fun q hq => (HO.out.lt q hq).1)
      have HO1 : Hid (w1.ownsRow w.heap.size 32 11 v1 (k + 1) (pksC (ps.take (k + 1)))) := by
        unfold Hid; rw [HT.out]; exact hown1
      clear hown1 hg1 HO Hb
      go_wp2
      go_roundg (ps.length - (k + 1))
      case measure => omega
      case rel => exact ⟨k + 1, by omega, by go_num, rfl, HO1, HB1⟩
    · obtain rfl : k = ps.length := by omega
      have HO2 := HO.out
      rw [List.take_length] at HO2
      have HO3 := Lib.hid HO2
      clear HO2 HO
      go_wp2
      go_ret
      exact ⟨_, rfl, HO3.out, Hb.out⟩

def shortPB (n : Nat) : Bool := decide (n ≤ 12) || decide (n = 1025)
theorem shortPackets_any (A : Option Addr) (n c : Nat) (w : World) (hn : n ≤ 9223372036854775807) :
    Calls Tryz.prog 21 #[.slice A n c] w fun e w' => e = .returned (.bool (shortPB n)) ∧ Below w.heap.size w w' := by
  by_cases h1 : n ≤ 12
  · have HS : Hid (shortPB n = true) := by unfold Hid shortPB; rw [decide_eq_true h1]; rfl
    go_enter Tryz.func21, Tryz.ntmps21
    go_wp2
    all_goals go_ret
    all_goals exact ⟨by rw [HS.out]; rfl, Below.refl _ _⟩
  · by_cases h2 : n = 1025
    · have HS : Hid (shortPB n = true) := by unfold Hid shortPB; rw [decide_eq_true h2, Bool.or_true]
      subst h2
      go_enter Tryz.func21, Tryz.ntmps21
      go_wp2
      all_goals go_ret
      all_goals exact ⟨by rw [HS.out]; rfl, Below.refl _ _⟩
    · have HS : Hid (shortPB n = false) := by unfold Hid shortPB; rw [decide_eq_false h1, decide_eq_false h2]; rfl
      have h3 : decide ((n : Int) ≤ 12) = false := decide_eq_false (by omega)
      have h4 : ((n : Int) == 1025) = false := by rw [beq_eq_false_iff_ne]; omega
      clear h1 h2
      go_enter Tryz.func21, Tryz.ntmps21
      go_wp2
      all_goals go_ret
      all_goals exact ⟨by rw [HS.out]; rfl, Below.refl _ _⟩

theorem checkPacketR_any (p : PkT) (h8 : p.2.2.2.length = 8) (w : World) :
    Calls Tryz.prog 10 #[.agg (pkV p).toArray] w fun e w' => e = .returned (.int .i64 (pkE p)) ∧ Below w.heap.size w w' := by
  obtain ⟨st, ct, ln, x0, x1, x2, x3, x4, x5, x6, x7, rfl⟩ := pk_form h8
  have h := cqR st ct ln x0 x1 x2 x3 x4 x5 x6 x7 w
  rw [pk_same _ _ _ _ rfl] at h
  exact h
set_option maxRecDepth 100000 in
set_option maxHeartbeats 2000000 in
theorem checkPacketsR_any (A : Option Addr) (n c : Nat) (ps : List PkT) (w : World) (hA : Rd w A (pksC ps)) (h8 : pks8 ps) (hn : n = ps.length) (hx : ps.length ≤ 9223372036854775807) :
    Calls Tryz.prog 25 #[.slice A n c] w fun e w' => e = .returned (.int .i64 (pksI ps)) ∧ Below w.heap.size w w' := by
  subst hn
  by_cases hl : 1024 < ps.length
  · have HP : Hid (pksI ps = 5) := by unfold Hid pksI; rw [if_pos hl]
    have g1 : (1024 : Int) < (ps.length : Int) := by omega
    clear hl hA
    go_enter Tryz.func25, Tryz.ntmps25
    go_wp2
    go_ret
    exact ⟨ret_int HP.out.symm, Below.refl _ _⟩
  · have HP : Hid (pksI ps = firstI (ps.map pkE)) := by unfold Hid pksI; rw [if_neg hl]
    have g1 : decide ((1024 : Int) < (ps.length : Int)) = false := decide_eq_false (by omega)
    have HA := Lib.hid hA; have H8 := Lib.hid h8
    clear hA h8 hl
    go_enter Tryz.func25, Tryz.ntmps25
    go_wp2
    go_loopw [3] (fun i wr => ∃ k : Nat, k ≤ ps.length ∧ i = .int .i64 k ∧ Hid (firstI ((ps.map pkE).drop k) = firstI (ps.map pkE)) ∧ Hid (Below w.heap.size w wr)) (fun i _ => ps.length - (intOf i).toNat)
    case atStart => exact ⟨0, Nat.zero_le _, rfl, rfl, Below.refl _ _⟩
    case round =>
      obtain ⟨k, hk, rfl, HF, HB⟩ := hrel
      by_cases hlt : k < ps.length
      · obtain ⟨b, off, hAb, hc⟩ := Rd.flat (HA.out.below HB.out) (fun p hp => pkV_length (H8.out p hp)) (by decide) hlt
        subst hAb
        have i1 : (k : Int) < (ps.length : Int) := by omega
        have HCP := Lib.hid (checkPacketR_any ps[k] (H8.out _ (List.getElem_mem hlt)))
        have HF2 := HF.out
        rw [firstI_drop (by simpa using hlt), List.getElem_map] at HF2
        obtain ⟨E, hE⟩ : ∃ E, E = pkE ps[k] := ⟨_, rfl⟩
        rw [← hE] at HF2 HCP
        obtain ⟨st, ct, ln, x0, x1, x2, x3, x4, x5, x6, x7, hp⟩ := pk_form (H8.out _ (List.getElem_mem hlt))
        rw [hp] at hc HCP
        have HCP : Hid (∀ W, Calls Tryz.prog 10 #[.agg #[.int .i64 st, .int .i64 ct, .int .i64 ln, .float .f32 x0, .float .f32 x1, .float .f32 x2, .float .f32 x3, .float .f32 x4, .float .f32 x5, .float .f32 x6, .float .f32 x7]] W fun e w' => e = .returned (.int .i64 E) ∧ Below W.heap.size W w') := HCP
        have c0 := hc 0 _ rfl; have c1 := hc 1 _ rfl; have c2 := hc 2 _ rfl; have c3 := hc 3 _ rfl; have c4 := hc 4 _ rfl; have c5 := hc 5 _ rfl; have c6 := hc 6 _ rfl; have c7 := hc 7 _ rfl; have c8 := hc 8 _ rfl; have c9 := hc 9 _ rfl; have c10 := hc 10 _ rfl
        rw [Nat.add_zero] at c0
        have HF3 := Lib.hid HF2
        clear hc hp hE HF2 HF
        by_cases h0 : E = 0
        · subst h0
          have HF4 : Hid (firstI ((ps.map pkE).drop (k + 1)) = firstI (ps.map pkE)) := by unfold Hid; rw [← HF3.out, if_pos rfl]
          clear HF3
          go_wp2_with (go_at_call 10; refine (HCP.out _).mono ?_; rintro e w1 ⟨rfl, hb1⟩; have HB1 := Lib.hid (HB.out.trans (hb1.mono HB.out.size)); clear hb1)
          go_roundw
          case rel => exact ⟨k + 1, by omega, by go_num, HF4, HB1⟩
          case measure => simp [intOf]; omega
        · have hne : (E != 0) = true := by simpa using h0
          have HF4 : Hid (firstI (ps.map pkE) = E) := by unfold Hid; rw [← HF3.out, if_neg h0]
          clear HF3 h0
          go_wp2_with (go_at_call 10; refine (HCP.out _).mono ?_; rintro e w1 ⟨rfl, hb1⟩; have HB1 := Lib.hid (HB.out.trans (hb1.mono HB.out.size)); clear hb1)
          go_ret
          exact ⟨ret_int (by rw [HP.out, HF4.out]), HB1.out⟩
      · obtain rfl : k = ps.length := by omega
        have HF4 : Hid (firstI (ps.map pkE) = 0) := by unfold Hid; rw [← HF.out, List.drop_of_length_le (by simp)]; rfl
        clear HF
        go_wp2
        go_ret
        exact ⟨ret_int (by rw [HP.out, HF4.out]), HB.out⟩

/-- what stands at an index -/
def StA (s : AsT) (i : Nat) (o : Option Nat) : Prop := s.2[i]? = some o.isSome ∧ s.1[i]? = some (o.getD 0)
theorem put1_st {s : AsT} {i : Nat} {o : Option Nat} (h : StA s i o) (j x : Nat) : StA (put1 s j x) i (orN o (if j = i then some x else none)) := by
  have h2 := (List.getElem?_eq_some_iff.1 h.1).1
  have h1 := (List.getElem?_eq_some_iff.1 h.2).1
  unfold put1
  by_cases hji : j = i
  · subst hji
    have hg : s.2.getD j true = o.isSome := by rw [List.getD_eq_getElem?_getD, h.1]; rfl
    rw [hg]
    cases o with
    | some y => exact h
    | none =>
      refine ⟨?_, ?_⟩
      · simp [h2, orN]
      · simp [h1, orN]
  · have key : StA (put1 s j x) i o := by
      unfold put1
      split
      · exact h
      · exact ⟨by simp only []; rw [List.getElem?_set_ne hji]; exact h.1, by simp only []; rw [List.getElem?_set_ne hji]; exact h.2⟩
    unfold put1 at key
    cases o with
    | some y => exact key
    | none => rw [if_neg hji]; exact key
theorem putGo_st {s : AsT} {i : Nat} {o : Option Nat} (h : StA s i o) (a : Nat) (xs : List Nat) : ∀ m, StA (putGo s a xs m) i (orN o (if a ≤ i ∧ i < a + m then some (xs.getD (i - a) 0) else none))
  | 0 => by
    cases o with
    | some y => exact h
    | none => rw [if_neg (by omega)]; exact h
  | m + 1 => by
    rw [putGo_succ]
    have ih := putGo_st h a xs m
    have k := put1_st ih (a + m) (xs.getD m 0)
    cases o with
    | some y => exact k
    | none =>
      by_cases h1 : a ≤ i ∧ i < a + m
      · simp only [if_pos h1, orN] at k
        simp only [if_pos (show a ≤ i ∧ i < a + (m + 1) by omega), orN]
        exact k
      · simp only [if_neg h1, orN] at k
        by_cases h2 : a + m = i
        · simp only [if_pos h2] at k
          simp only [if_pos (show a ≤ i ∧ i < a + (m + 1) by omega), orN]
          rw [show i - a = m by omega]; exact k
        · simp only [if_neg h2] at k
          simp only [if_neg (show ¬ (a ≤ i ∧ i < a + (m + 1)) by omega), orN]
          exact k
theorem asm1_st {s : AsT} {i N : Nat} {o : Option Nat} (h : StA s i o) (hi : i < N) (station : Int) (p : PkT) (hc : 0 ≤ p.2.1) (hl : 0 ≤ p.2.2.1) :
    StA (asm1 station N s p) i (orN o (if hit station i p then some (p.2.2.2.getD ((i : Int) - 8 * p.2.1).toNat 0) else none)) := by
  unfold asm1
  by_cases hs : p.1 = station
  · rw [if_pos hs]
    have k := putGo_st h (8 * p.2.1).toNat p.2.2.2 (min p.2.2.1 ((N : Int) - 8 * p.2.1)).toNat
    cases o with
    | some y => exact k
    | none =>
      by_cases hh : 0 ≤ (i : Int) - 8 * p.2.1 ∧ (i : Int) - 8 * p.2.1 < p.2.2.1
      · have h1 : hit station i p = true := by unfold hit; simp only [decide_eq_true_eq]; exact ⟨hs, hh.1, hh.2⟩
        simp only [if_pos h1, orN]
        simp only [orN, if_pos (show (8 * p.2.1).toNat ≤ i ∧ i < (8 * p.2.1).toNat + (min p.2.2.1 ((N : Int) - 8 * p.2.1)).toNat by omega)] at k
        rw [show ((i : Int) - 8 * p.2.1).toNat = i - (8 * p.2.1).toNat by omega]; exact k
      · have h1 : ¬ hit station i p = true := by unfold hit; simp only [decide_eq_true_eq]; exact fun h => hh h.2
        simp only [if_neg h1, orN]
        simp only [orN, if_neg (show ¬ ((8 * p.2.1).toNat ≤ i ∧ i < (8 * p.2.1).toNat + (min p.2.2.1 ((N : Int) - 8 * p.2.1)).toNat) by omega)] at k
        exact k
  · rw [if_neg hs]
    have h1 : ¬ hit station i p = true := by unfold hit; simp only [decide_eq_true_eq]; exact fun h => hs h.1
    cases o with
    | some y => exact h
    | none => simp only [if_neg h1, orN]; exact h
theorem asmGo_st (station : Int) (i N : Nat) (hi : i < N) : ∀ (qs ps : List PkT) (s : AsT), (∀ p ∈ qs, 0 ≤ p.2.1 ∧ 0 ≤ p.2.2.1) → StA s i (hitX station i ps) → StA (qs.foldl (asm1 station N) s) i (hitX station i (ps ++ qs))
  | [], ps, s, hv, h => by rw [List.append_nil]; exact h
  | q :: qs, ps, s, hv, h => by
    rw [List.foldl_cons]
    have k := asmGo_st station i N hi qs (ps ++ [q]) (asm1 station N s q) (fun p hp => hv p (by simp [hp])) (by
      rw [hitX_app]; exact asm1_st h hi station q (hv q (by simp)).1 (hv q (by simp)).2)
    rwa [List.append_assoc] at k
theorem asm_eq (station : Int) (N : Nat) (ps : List PkT) (hv : ∀ p ∈ ps, 0 ≤ p.2.1 ∧ 0 ≤ p.2.2.1) : asmL station N ps = (outL station N ps, thL station N ps) := by
  have hl := asmL_len station N ps
  have h : ∀ i, i < N → StA (asmL station N ps) i (hitX station i ps) := fun i hi => by
    have k := asmGo_st station i N hi ps [] (List.replicate (N : Int).toNat 0, List.replicate (N : Int).toNat false) hv ⟨by simp [hitX, hi], by simp [hitX, hi]⟩
    exact k
  refine Prod.ext (List.ext_getElem? fun i => ?_) (List.ext_getElem? fun i => ?_)
  · by_cases hi : i < N
    · rw [(h i hi).2]; simp [outL, hi]
    · rw [List.getElem?_eq_none (by rw [hl.1]; simp; omega), List.getElem?_eq_none (by rw [outL_length]; omega)]
  · by_cases hi : i < N
    · rw [(h i hi).1]; simp [thL, hi]
    · rw [List.getElem?_eq_none (by rw [hl.2]; simp; omega), List.getElem?_eq_none (by rw [thL_length]; omega)]
theorem hitX_mem {station i : Int} : ∀ {ps : List PkT} {x : Nat}, hitX station i ps = some x → ∃ p ∈ ps, ∃ j, x = p.2.2.2.getD j 0
  | [], x, h => by simp [hitX] at h
  | p :: ps, x, h => by
    rw [hitX] at h
    split at h
    · cases h; exact ⟨p, by simp, _, rfl⟩
    · obtain ⟨q, hq, j, hj⟩ := hitX_mem h
      exact ⟨q, by simp [hq], j, hj⟩
theorem out_good (station : Int) (N : Nat) (ps : List PkT) (hv : ∀ p ∈ ps, ∀ x ∈ p.2.2.2, sampI x = 0) (h0 : sampI 0 = 0) : ∀ x ∈ outL station N ps, sampI x = 0 := by
  intro x hx
  unfold outL at hx
  obtain ⟨i, _, rfl⟩ := List.mem_map.1 hx
  cases hh : hitX station (i : Int) ps with
  | none => exact h0
  | some y =>
    obtain ⟨p, hp, j, rfl⟩ := hitX_mem hh
    show sampI (p.2.2.2.getD j 0) = 0
    rw [List.getD_eq_getElem?_getD]
    cases hg : p.2.2.2[j]? with
    | none => exact h0
    | some z => exact hv p hp z (List.mem_of_getElem? hg)
theorem gapsGo_len : ∀ (bs : List Bool) (i : Nat) (sp : List (Int × Int)), (gapsGo bs i sp).length ≤ sp.length + bs.length
  | [], i, sp => by simp [gapsGo]
  | b :: bs, i, sp => by
    rw [gapsGo]
    have h := gapsGo_len bs (i + 1) (if b then sp else widL sp i)
    have h2 := widL_le sp i
    cases b
    · simp only [List.length_cons]; simp only [Bool.false_eq_true, if_false] at h; simp only [Bool.false_eq_true, if_false]; omega
    · simp only [List.length_cons]; simp only [if_true] at h; simp only [if_true]; omega
end Go.Proofs.YtipligklkkiejaaGreatDoor
