import Derived.Test.YtkfkmnfejeocpaaGreatDoorM28
namespace Go.Proofs.YtkfkmnfejeocpaaGreatDoor
set_option linter.all false
open Go.RowKit Go.Fl
def pS (st sp : Int) (f : Nat) : Int := st + sp * f
def pX (xs : List Nat) (f t : Nat) : List Nat := (xs.drop f).take (t - f)
def pM (ms : List Mk) (f t : Nat) : List Mk := cutM (f : Int) (t : Int) ms
theorem pX_len {xs : List Nat} {f t : Nat} (h : t ≤ xs.length) : (pX xs f t).length = t - f := by unfold pX; rw [List.length_take, List.length_drop]; omega
theorem pX_le (xs : List Nat) (f t : Nat) : (pX xs f t).length ≤ xs.length := by unfold pX; rw [List.length_take, List.length_drop]; omega
theorem pM_le (ms : List Mk) (f t : Nat) : (pM ms f t).length ≤ ms.length := by unfold pM cutM; rw [List.length_map]; exact List.length_filter_le ..
theorem pX_whole (xs : List Nat) : pX xs 0 xs.length = xs := by unfold pX; rw [Nat.sub_zero, List.drop_zero, List.take_length]
theorem pX_join (xs : List Nat) {f t u : Nat} (h1 : f ≤ t) (h2 : t ≤ u) : pX xs f t ++ pX xs t u = pX xs f u := take_join xs h1 h2
def CutOk (st sp : Int) (xs : List Nat) (ms : List Mk) : Prop := RcOk st sp xs ms ∧ st + sp * (xs.length : Int) ≤ 100000000
theorem CutOk.part {st sp : Int} {xs : List Nat} {ms : List Mk} (h : CutOk st sp xs ms) {f t : Nat} (h1 : f ≤ t) (h2 : t ≤ xs.length) : RcOk (pS st sp f) sp (pX xs f t) (pM ms f t) := cut_rec h.1 h1 h2 h.2
theorem CutOk.tick {st sp : Int} {xs : List Nat} {ms : List Mk} (h : CutOk st sp xs ms) {f : Nat} (h1 : f ≤ xs.length) : tickI st sp f = pS st sp f ∧ 0 ≤ pS st sp f ∧ pS st sp f ≤ 100000000 := by
 obtain ⟨h3, h4, h5, _⟩ := h.1
 have hf := mul_le_of (a := sp) (b := sp) (c := f) (d := xs.length) (by omega) (Int.le_refl _) (by omega) (by omega)
 have h6 := h.2
 refine ⟨tickI_eq (by omega) h4 (by omega), ?_⟩
 unfold pS
 omega
theorem CutOk.tick2 {st sp : Int} {xs : List Nat} {ms : List Mk} (h : CutOk st sp xs ms) {f t : Nat} (h1 : f ≤ t) (h2 : t ≤ xs.length) : tickI (pS st sp f) sp (pX xs f t).length = pS st sp t := by
 obtain ⟨h3, h4, h5, _⟩ := h.1
 have hk := h.tick (f := f) (by omega)
 rw [pX_len h2, tickI_eq (by omega) h4 (by omega)]
 unfold pS
 rw [Int.add_assoc, ← Int.mul_add]
 congr 2
 omega
def SlOk (W : World) (A : Option Addr) (c : Nat) (xs : List Nat) (B : Option Addr) (ms : List Mk) : Prop := Rd W A (flts xs) ∧ Rd W B (markC ms) ∧ (A = none → c = 0)
theorem SlOk.below {W W' : World} {A B : Option Addr} {c : Nat} {xs : List Nat} {ms : List Mk} (h : SlOk W A c xs B ms) (hb : Below W.heap.size W W') : SlOk W' A c xs B ms := ⟨h.1.below hb, h.2.1.below hb, h.2.2⟩
theorem cut_part {st sp : Int} {xs : List Nat} {ms : List Mk} (h : CutOk st sp xs ms) {f t : Nat} (h1 : f ≤ t) (h2 : t ≤ xs.length) (W : World) (A B : Option Addr) (c d : Nat) (hR : SlOk W A c xs B ms) (hc : xs.length ≤ c) :
 Calls Tryz.prog 29 #[.agg #[.int .i64 st, .int .i64 sp, .slice A xs.length c, .slice B ms.length d], .agg #[.int .i64 f, .int .i64 t]] W fun e w' =>
  ∃ CA cc CB cd, e = .returned (.tuple #[.agg #[.int .i64 (pS st sp f), .int .i64 sp, .slice CA (pX xs f t).length cc, .slice CB (pM ms f t).length cd], .int .i64 0]) ∧ w'.ownsRow W.heap.size 27 1 (.slice CA (pX xs f t).length cc) (pX xs f t).length (flts (pX xs f t)) ∧ w'.ownsRow W.heap.size 100 2 (.slice CB (pM ms f t).length cd) (pM ms f t).length (markC (pM ms f t)) ∧ Below W.heap.size W w' := by
 obtain ⟨h3, h4, h5, _, _, h6⟩ := h.1
 have hk := h.tick (f := f) (by omega)
 refine (cut_ok st sp A B xs.length c ms.length d xs ms f t W hR.1 hR.2.1 rfl rfl (by omega) (by have := h6.1; omega) hc hR.2.2 (recI_zero h.1) h1 h2 (by rw [hk.1]; omega)).mono ?_
 rintro e w' ⟨v, g, rfl, ho, hr, hg, hb⟩
 obtain ⟨CA, cc, rfl, -⟩ := owned_slice ho
 have hmt := pM_le ms f t
 refine ⟨CA, cc, some ⟨g, 0, none⟩, (pM ms f t).length, by rw [hk.1, pX_len h2]; rfl, by rw [pX_len h2]; exact ho, ?_, hb⟩
 exact row_owns hr 2 (pM ms f t).length W.heap.size (markC_length _) (by have := h6.1; unfold maxLen; omega) hg
theorem join_part {st sp : Int} {xs : List Nat} {ms : List Mk} (h : CutOk st sp xs ms) {f t u : Nat} (h1 : f ≤ t) (h2 : t ≤ u) (h3 : u ≤ xs.length) (W : World) (A B A2 B2 : Option Addr) (c d c2 d2 : Nat)
 (hR : SlOk W A c (pX xs f t) B (pM ms f t)) (hR2 : SlOk W A2 c2 (pX xs t u) B2 (pM ms t u)) :
 Calls Tryz.prog 32 #[.agg #[.int .i64 (pS st sp f), .int .i64 sp, .slice A (pX xs f t).length c, .slice B (pM ms f t).length d], .agg #[.int .i64 (pS st sp t), .int .i64 sp, .slice A2 (pX xs t u).length c2, .slice B2 (pM ms t u).length d2]] W fun e w' =>
  ∃ CA cc CB cd, e = .returned (.tuple #[.agg #[.int .i64 (pS st sp f), .int .i64 sp, .slice CA (pX xs f u).length cc, .slice CB (pM ms f u).length cd], .int .i64 0]) ∧ w'.ownsRow W.heap.size 27 1 (.slice CA (pX xs f u).length cc) (pX xs f u).length (flts (pX xs f u)) ∧ w'.ownsRow W.heap.size 100 2 (.slice CB (pM ms f u).length cd) (pM ms f u).length (markC (pM ms f u)) ∧ Below W.heap.size W w' := by
 obtain ⟨g3, g4, g5, _, _, g6⟩ := h.1
 have hp := h.part h1 (by omega : t ≤ xs.length)
 have hq := h.part h2 h3
 have ht := h.tick2 h1 (by omega : t ≤ xs.length)
 have hlen : (pX xs f t).length + (pX xs t u).length = (pX xs f u).length := by rw [← List.length_append, pX_join xs h1 h2]
 have hmk : (pM ms f t).map (shiftM 0) ++ (pM ms t u).map (shiftM (pX xs f t).length) = pM ms f u := by
  rw [pX_len (by omega)]; exact cutM_join g6 (by omega) h1 h2 (by omega)
 have hml : (pM ms f t).length + (pM ms t u).length = (pM ms f u).length := by rw [← hmk]; simp
 have hmu := pM_le ms f u
 have hxu := pX_le xs f u
 refine (joined_ok (pS st sp f) sp A B A2 B2 _ c _ d _ c2 _ d2 (pX xs f t) (pX xs t u) (pM ms f t) (pM ms t u) (pS st sp t) W hR.1 hR.2.1 hR2.1 hR2.2.1 rfl rfl rfl rfl (recI_zero hp) (by rw [ht]; exact recI_zero hq) ht.symm (by omega) (by have := g6.1; omega)).mono ?_
 rintro e w' ⟨g, v, rfl, hr, ho, hg, hb⟩
 obtain ⟨CB, cd, rfl, -⟩ := owned_slice ho
 refine ⟨some ⟨g, 0, none⟩, (pX xs f u).length, CB, cd, by rw [hlen, hml], ?_, ?_, hb⟩
 · have hr2 := hr
   rw [pX_join xs h1 h2] at hr2
   exact row_owns hr2 1 (pX xs f u).length W.heap.size (by simp [flts]) (by unfold maxLen; omega) hg
 · rw [hmk, hml] at ho; exact ho
theorem join_gap {st sp : Int} {xs : List Nat} {ms : List Mk} (h : CutOk st sp xs ms) {f t : Nat} (h1 : f < t) (h3 : t ≤ xs.length) (W : World) (A B A2 B2 : Option Addr) (c d c2 d2 : Nat)
 (hR : SlOk W A c (pX xs 0 f) B (pM ms 0 f)) (hR2 : SlOk W A2 c2 (pX xs t xs.length) B2 (pM ms t xs.length)) :
 Calls Tryz.prog 32 #[.agg #[.int .i64 (pS st sp 0), .int .i64 sp, .slice A (pX xs 0 f).length c, .slice B (pM ms 0 f).length d], .agg #[.int .i64 (pS st sp t), .int .i64 sp, .slice A2 (pX xs t xs.length).length c2, .slice B2 (pM ms t xs.length).length d2]] W fun e w' =>
  e = .returned (.tuple #[.agg #[.int .i64 0, .int .i64 0, .slice none 0 0, .slice none 0 0], .int .i64 11]) ∧ Below W.heap.size W w' := by
 obtain ⟨g3, g4, g5, _, _, g6⟩ := h.1
 have hp := h.part (Nat.zero_le f) (by omega : f ≤ xs.length)
 have hq := h.part h3 (Nat.le_refl xs.length)
 have ht := h.tick2 (Nat.zero_le f) (by omega : f ≤ xs.length)
 have hne : pS st sp t ≠ pS st sp f := by
  unfold pS
  intro e
  have e2 : sp * (t : Int) = sp * (f : Int) := by omega
  have e3 : sp * ((t : Int) - f) = 0 := by rw [Int.mul_sub]; omega
  rcases Int.mul_eq_zero.1 e3 with h5 | h5 <;> omega
 have hE : jointE (pS st sp 0) sp (pX xs 0 f) (pM ms 0 f) (pS st sp t) sp (pX xs t xs.length) (pM ms t xs.length) = 11 := by
  unfold jointE pairE
  rw [recI_zero hp, recI_zero hq, ht]
  have e1 : (sp != sp) = false := by simp
  have e2 : (pS st sp t != pS st sp f) = true := by simpa using hne
  rw [e1, e2]
  rfl
 have hm1 := pM_le ms 0 f
 have hm2 := pM_le ms t xs.length
 have hx1 := pX_le xs 0 f
 have hx2 := pX_le xs t xs.length
 have k := joined_bad (pS st sp 0) sp A B A2 B2 _ c _ d _ c2 _ d2 (pX xs 0 f) (pX xs t xs.length) (pM ms 0 f) (pM ms t xs.length) (pS st sp t) sp W hR.1 hR.2.1 hR2.1 hR2.2.1 rfl rfl rfl rfl (by omega) (by omega) (by have := g6.1; omega) (by have := g6.1; omega) (by rw [hE]; decide)
 rw [hE] at k
 exact k
theorem told_sl (s sp : Int) (A B : Option Addr) (c d : Nat) (X : List Nat) (M : List Mk) (W : World) (h : SlOk W A c X B M) (hx : X.length ≤ 1000000) (hm : M.length ≤ 1000000) :
 Calls Tryz.prog 33 #[.agg #[.int .i64 s, .int .i64 sp, .slice A X.length c, .slice B M.length d]] W fun e w' => ∃ A' c' B' d', e = .returned (.agg #[.int .i64 s, .int .i64 sp, .slice A' X.length c', .slice B' M.length d']) ∧ SlOk w' A' c' X B' M ∧ Below W.heap.size W w' :=
 (told_cap s sp A B c d X M W h.1 h.2.1 hx hm h.2.2).mono fun e w' ⟨A', c', B', d', h1, h2, h3, h4, _, h6⟩ => ⟨A', c', B', d', h1, ⟨h2, h3, h6⟩, h4⟩
theorem given_sl (s sp : Int) (A B : Option Addr) (c d : Nat) (X : List Nat) (M : List Mk) (W : World) (h : SlOk W A c X B M) (hx : X.length ≤ 1000000) (hm : M.length ≤ 1000000) :
 Calls Tryz.prog 30 #[.agg #[.int .i64 s, .int .i64 sp, .slice A X.length c, .slice B M.length d]] W fun e w' => ∃ A' c' B' d', e = .returned (.agg #[.int .i64 s, .int .i64 sp, .slice A' X.length c', .slice B' M.length d']) ∧ SlOk w' A' c' X B' M ∧ X.length ≤ c' ∧ Below W.heap.size W w' :=
 (given_ok s sp A B c d X M W h.1 h.2.1 hx hm h.2.2).mono fun e w' ⟨A', c', B', d', h1, h2, h3, h4, h5, h6⟩ => ⟨A', c', B', d', h1, ⟨h2, h3, h6⟩, h5, h4⟩
theorem to_ok (f t : Int) (W : World) : Calls Tryz.prog 31 #[.int .i64 f, .int .i64 t] W fun e w' => e = .returned (.agg #[.int .i64 f, .int .i64 t]) ∧ Below W.heap.size W w' := by
 refine (to_any f t W).mono ?_
 rintro e w' ⟨rfl, rfl⟩
 exact ⟨rfl, (Below.refl _ _).alloc (Nat.le_refl _) _⟩
theorem absSum_self : ∀ x : List Int, absSum x x = 0
 | [] => rfl
 | a :: x => by
   have h := absSum_self x
   rw [absSum, h]
   omega
theorem dif_zero {X Y : List Int} (h0 : 0 < X.length) (h : absSum X Y = 0) : difN X Y = 0 ∧ difD X Y = 1 := by
 unfold difN difD gcdI
 rw [h, Int.gcd_zero_left]
 refine ⟨by simp, ?_⟩
 show (X.length : Int) / ((X.length : Int).natAbs : Int) = 1
 rw [Int.natAbs_natCast]
 exact Int.ediv_self (by omega)
theorem alGo_late {x : List Int} {k : Nat} (h0 : 0 < x.length) (h1 : x.length ≤ 30) (hk : k ≤ 8) (hx : ∀ v ∈ x, v.natAbs ≤ 65536) : ∀ (j : Nat) (g : Nat) (s : Nat) (b : Int × Int × Int), s + j = k → j < g → (b = (0, 0, 0) ∨ (0 < b.1 ∧ 0 < b.2.1)) →
 ∃ t : Nat, t ≤ k ∧ alGo x (List.replicate k 0 ++ x) x.length g s b = (0, 1, (t : Int)) := by
 intro j
 induction j with
 | zero =>
   intro g s b hs hg hb
   obtain ⟨g, rfl⟩ : ∃ g', g = g' + 1 := ⟨g - 1, by omega⟩
   have hsk : s = k := by omega
   subst hsk
   have hyl : (List.replicate s (0 : Int) ++ x).length = s + x.length := by simp
   rw [alGo_long x _ x.length g s b 0 x.length s (by omega) (by rw [hyl]; omega) (by omega) (by omega)]
   have hX : (x.drop 0).take (x.length - 0) = x := by simp
   have hY : ((List.replicate s (0 : Int) ++ x).drop s).take (x.length - 0) = x := by
    rw [List.drop_append_of_le_length (by simp)]; simp
   rw [hX, hY]
   obtain ⟨d1, d2⟩ := dif_zero h0 (absSum_self x)
   rw [d1, d2]
   have hc : b.2.1 = 0 ∨ 0 * b.2.1 < b.1 * 1 := by
    rcases hb with h | h
    · subst h; exact .inl rfl
    · exact .inr (by omega)
   rw [if_pos hc]
   exact ⟨s, Nat.le_refl _, rfl⟩
 | succ j ih =>
   intro g s b hs hg hb
   obtain ⟨g, rfl⟩ : ∃ g', g = g' + 1 := ⟨g - 1, by omega⟩
   have hyl : (List.replicate k (0 : Int) ++ x).length = k + x.length := by simp
   rw [alGo_long x _ x.length g s b 0 x.length s (by omega) (by rw [hyl]; omega) (by omega) (by omega)]
   have hX : (x.drop 0).take (x.length - 0) = x := by simp
   rw [hX]
   obtain ⟨Y, hY⟩ : ∃ Y, Y = ((List.replicate k (0 : Int) ++ x).drop s).take (x.length - 0) := ⟨_, rfl⟩
   have hYm : ∀ v ∈ Y, v.natAbs ≤ 65536 := by
    intro v hv
    rw [hY] at hv
    rcases List.mem_append.1 (List.mem_of_mem_drop (List.mem_of_mem_take hv)) with h | h
    · rw [List.eq_of_mem_replicate h]; decide
    · exact hx v h
   rw [← hY]
   obtain ⟨⟨n0, _⟩, dd, _⟩ := dif_bd x Y h0 (by omega) hx hYm
   obtain ⟨N, hN⟩ : ∃ N, N = difN x Y := ⟨_, rfl⟩
   obtain ⟨D, hD⟩ : ∃ D, D = difD x Y := ⟨_, rfl⟩
   rw [← hN] at n0 ⊢
   rw [← hD] at dd ⊢
   have hstep : ((s : Int) + 1) = ((s + 1 : Nat) : Int) := by omega
   by_cases hz : N = 0
   · have hD1 : D = 1 := by
      have hs0 : absSum x Y = 0 := by
       have hb := (absSum_bd x Y hx hYm).1
       have hg : 0 < gcdI (absSum x Y) x.length := by
        unfold gcdI
        have := Int.gcd_pos_of_ne_zero_right (absSum x Y) (b := (x.length : Int)) (by omega)
        omega
       have hdv : gcdI (absSum x Y) x.length ∣ absSum x Y := Int.gcd_dvd_left ..
       rw [hN] at hz
       unfold difN at hz
       have h3 := Int.tdiv_mul_cancel hdv
       rw [hz, Int.zero_mul] at h3
       exact h3.symm
      rw [hD]; exact (dif_zero h0 hs0).2
     subst hz
     rw [hD1]
     have hc : b.2.1 = 0 ∨ 0 * b.2.1 < b.1 * 1 := by
      rcases hb with h | h
      · subst h; exact .inl rfl
      · exact .inr (by omega)
     rw [if_pos hc]
     exact ⟨s, by omega, rfl⟩
   · by_cases hc : b.2.1 = 0 ∨ N * b.2.1 < b.1 * D
     · rw [if_pos hc]
       show ∃ t : Nat, t ≤ k ∧ (if N = 0 then _ else _) = _
       rw [if_neg hz, hstep]
       exact ih g (s + 1) (N, D, (s : Int)) (by omega) (by omega) (.inr ⟨by show 0 < N; omega, by show 0 < D; omega⟩)
     · rw [if_neg hc]
       have hb1 : ¬ b.1 = 0 := by
        intro e
        rcases hb with h | h
        · exact hc (.inl (by rw [h]))
        · omega
       show ∃ t : Nat, t ≤ k ∧ (if b.1 = 0 then _ else _) = _
       rw [if_neg hb1, hstep]
       exact ih g (s + 1) b (by omega) (by omega) hb
theorem align_late {x : List Int} {k : Nat} (h0 : 0 < x.length) (h1 : x.length ≤ 30) (hk : k ≤ 8) (hx : ∀ v ∈ x, v.natAbs ≤ 65536) : ∃ t : Nat, t ≤ k ∧ alignL x (List.replicate k 0 ++ x) 8 x.length = (0, 1, (t : Int)) := by
 have hneg : ∀ (j : Nat) (g : Nat), j ≤ 8 → alGo x (List.replicate k 0 ++ x) x.length (j + g) (-(j : Int)) (0, 0, 0) = alGo x (List.replicate k 0 ++ x) x.length g ((0 : Nat) : Int) (0, 0, 0) := by
  intro j
  induction j with
  | zero => intro g _; rw [Nat.zero_add]; rfl
  | succ j ih =>
    intro g hj
    have hyl : (List.replicate k (0 : Int) ++ x).length = k + x.length := by simp
    rw [show j + 1 + g = (j + g) + 1 by omega, alGo_short x _ x.length (j + g) (-((j + 1 : Nat) : Int)) (0, 0, 0) (by rw [hyl]; omega)]
    rw [show -((j + 1 : Nat) : Int) + 1 = -(j : Int) by omega]
    exact ih g (by omega)
 unfold alignL
 have h := hneg 8 9 (by omega)
 obtain ⟨t, ht, he⟩ := alGo_late h0 h1 hk hx k 9 0 (0, 0, 0) (by omega) (by omega) (.inl rfl)
 exact ⟨t, ht, h.trans he⟩
def CpS (w : World) (A B : Option Addr) (xs : List Nat) (ms : List Mk) (L0 L1 : List Value) (W : World) : Prop := Row W w.heap.size 85 L0 ∧ Row W (w.heap.size + 1) 86 L1 ∧ Rd W A (flts xs) ∧ Rd W B (markC ms) ∧ Aw W ∧ Below w.heap.size w W
theorem CpS.keep {w W W' : World} {A B : Option Addr} {xs : List Nat} {ms : List Mk} {L0 L1 : List Value} (h : CpS w A B xs ms L0 L1 W) (hb : Below W.heap.size W W') : CpS w A B xs ms L0 L1 W' :=
 ⟨h.1.old hb, h.2.1.old hb, h.2.2.1.below hb, h.2.2.2.1.below hb, h.2.2.2.2.1.old hb, h.2.2.2.2.2.trans (hb.mono h.2.2.2.2.2.size)⟩
theorem CpS.new {w : World} {A B : Option Addr} {xs : List Nat} {ms : List Mk} {L0 L1 : List Value} (hA : Rd w A (flts xs)) (hB : Rd w B (markC ms)) (hW : Aw w) : CpS w A B xs ms L0 L1 ((w.alloc (.cells L0.toArray 85)).alloc (.cells L1.toArray 86)) := by
 have hb : Below w.heap.size w ((w.alloc (.cells L0.toArray 85)).alloc (.cells L1.toArray 86)) := ((Below.refl _ _).alloc (Nat.le_refl _) _).alloc (by simp) _
 have r1 := Row.new (w.alloc (.cells L0.toArray 85)) 86 L1
 rw [World.size_alloc] at r1
 exact ⟨(Row.new w 85 L0).alloc _, r1, hA.below hb, hB.below hb, hW.old hb, hb⟩
def RcR (sp : Int) (W : World) (g : Nat) (s : Int) (X : List Nat) (M : List Mk) (A B : Option Addr) (c d : Nat) : Prop := Row W g 91 [.int .i64 s, .int .i64 sp, .slice A X.length c, .slice B M.length d] ∧ SlOk W A c X B M
theorem RcR.below {sp : Int} {W W' : World} {g : Nat} {s : Int} {X : List Nat} {M : List Mk} {A B : Option Addr} {c d : Nat} (h : RcR sp W g s X M A B c d) (hb : Below W.heap.size W W') : RcR sp W' g s X M A B c d := ⟨h.1.old hb, h.2.below hb⟩
theorem step_app_rd {P : Program} {w : World} {ops : Array Oper} {o : Oper} {a : Act} {K : Act → World → Prop} {Q : Exit → Act → World → Prop} {E : Prop} (hgd : o.guard = none) (s x : Operand) (t : TypeId)
 (ho : o.op = .call { callee := .builtin .append, args := #[s, x], argTypes := #[t, t] })
 (base : Nat) (e : TypeId) (z : Value) (size bytes : Nat) (ht : P.underlying t = some (.slice e)) (hinfo : (P.info? e).map (fun i => (i.zero, i.size, i.bytes)) = some (some z, size, bytes)) (hzs : z.cells.size = size) (hsz : 0 < size)
 (v : Value) (n : Nat) (xs : List Value) (hs : a.eval s = v) (hown : w.ownsRow base e size v n xs)
 (A : Option Addr) (m c : Nat) (news : List Value) (hx : a.eval x = .slice A m c) (hc : A = none → c = 0) (hr : Rd w A news) (hl : news.length = m * size) (h1 : ∀ u ∈ news, u.oneCell' = true)
 (h63 : n + m ≤ maxLen) (hbytes : (n + m) * bytes ≤ 140737488355328) (hbase : base ≤ w.heap.size)
 (h : ∀ v' w', w'.ownsRow base e size v' (n + m) (xs ++ news) → w.grownBy w' v.ownBlock → K (a.put o.dst v') w') :
 if Region.wanted o (yielded ops a.tmps) = true then Oper.wp P o a w K Q else E := by
 have hw : Region.wanted o (yielded ops a.tmps) = true := by simp [Region.wanted, hgd]
 rw [if_pos hw]
 obtain ⟨i, hi, hz0, hz1, hz2⟩ := info_parts hinfo
 cases hA : A with
 | none =>
   have hn : news = [] := by
    cases news with
    | nil => rfl
    | cons u us =>
      obtain ⟨b, off, hh, _⟩ := hr 0 u rfl
      rw [hA] at hh; cases hh
   subst hn
   have hm : m = 0 := by
    have h0 : 0 = m * size := hl
    rcases Nat.mul_eq_zero.1 h0.symm with h | h
    · exact h
    · omega
   subst hm
   rw [hA, hc hA] at hx
   have hrun := run_append_owned_none (P := P) (w := w) base t o.type e i size ht hi v n xs hown
   unfold Oper.wp
   simp [execOp, ho, resolve, invoke, builtin, hs, hx, hrun, Result.andThen]
   exact h v w (by simpa using hown) (World.grownBy.refl w _)
 | some ad =>
   have hcells : ∀ j u, news[j]? = some u → w.cell? (ad.add j) = some u := by
    intro j u hu
    obtain ⟨b, off, hh, hcell⟩ := hr j u hu
    rw [hA] at hh
    cases hh
    by_cases hj : j = 0
    · subst hj; simpa [Addr.add] using hcell
    · simpa [Addr.add, hj] using hcell
   rw [hA] at hx
   exact wp_append_own w s x t ho base e i z size bytes ht hi hz0 hz1 hz2 hzs hsz v n xs hs hown ad m c news hx hl hcells h1 h63 hbytes hbase fun v' w' h2 h3 _ => h v' w' h2 h3
set_option maxRecDepth 100000 in
set_option maxHeartbeats 1000000 in
theorem cuts_far1 (haw : AwakeOk) (st sp : Int) (A B : Option Addr) (c d : Nat) (xs : List Nat) (ms : List Mk) (n0 n1 n2 : Nat) (w : World) (haW : Aw w) (hA : Rd w A (flts xs)) (hB : Rd w B (markC ms)) (hlc : xs.length ≤ c) (hx : xs.length ≤ 9223372036854775807) (hm : ms.length ≤ 9223372036854775807) (hs : shortRB xs.length ms = false) :
 Calls Tryz.prog 5 #[.agg #[.int .i64 st, .int .i64 sp, .slice A xs.length c, .slice B ms.length d], .agg #[.int .u8 (n0 : Int), .int .u8 (n1 : Int), .int .u8 (n2 : Int)]] w fun e w' => e = .returned (.bool true) ∧ Below w.heap.size w w' := by
 have HS0 := Lib.hid (CpS.new (L0 := [.int .i64 st, .int .i64 sp, .slice A xs.length c, .slice B ms.length d]) (L1 := [.int .u8 (n0 : Int), .int .u8 (n1 : Int), .int .u8 (n2 : Int)]) hA hB haW)
 have HSH : Hid (∀ W, Rd W B (markC ms) → Calls Tryz.prog 27 #[.agg #[.int .i64 st, .int .i64 sp, .slice A xs.length c, .slice B ms.length d]] W fun e w' => e = .returned (.bool false) ∧ Below W.heap.size W w') := fun W h => by
  have k := shortRecording_any st sp A B xs.length c ms.length d ms W h rfl hx hm
  rw [hs] at k; exact k
 clear haW hA hB hs
 go_enter Tryz.func5, Tryz.ntmps5
 go_upto_region 1 with fail
 refine genR (CpS w A B xs ms [.int .i64 st, .int .i64 sp, .slice A xs.length c, .slice B ms.length d] [.int .u8 (n0 : Int), .int .u8 (n1 : Int), .int .u8 (n2 : Int)]) HS0.out ?_
 clear HS0
 intro W1 s1
 have HS1 := Lib.hid s1
 clear s1
 go_cut [58] from 33 to 58 (fun s58 wx => s58 = .bool true ∧ CpS w A B xs ms [.int .i64 st, .int .i64 sp, .slice A xs.length c, .slice B ms.length d] [.int .u8 (n0 : Int), .int .u8 (n1 : Int), .int .u8 (n2 : Int)] wx)
 case first =>
  have c0 := HS1.out.1.cell 0; have c1 := HS1.out.1.cell 1; have c2 := HS1.out.1.cell 2; have c3 := HS1.out.1.cell 3; simp only [List.getElem?_cons_succ, List.getElem?_cons_zero] at c0 c1 c2 c3
  go_wp2_with (first
   | (go_at_call 27; refine (HSH.out _ HS1.out.2.2.2.1).mono ?_; rintro e w1 ⟨rfl, hb1⟩; have HS2 := Lib.hid (HS1.out.keep hb1); clear hb1; have p0 := HS2.out.1.cell 0; have p1 := HS2.out.1.cell 1; have p2 := HS2.out.1.cell 2; have p3 := HS2.out.1.cell 3; simp only [List.getElem?_cons_succ, List.getElem?_cons_zero] at p0 p1 p2 p3))
  go_meet
  exact ⟨rfl, HS2.out⟩
 case rest =>
 obtain ⟨rfl, s2⟩ := hcut
 have HS3 := Lib.hid s2
 clear s2 HS1 HSH
 go_wp2_with (go_at_call 20; refine (haw _ HS3.out.2.2.2.2.1).mono ?_; rintro e w5 ⟨rfl, hb5⟩; have HS4 := Lib.hid (HS3.out.keep hb5); clear hb5)
 go_ret
 exact ⟨rfl, HS4.out.2.2.2.2.2⟩
set_option maxRecDepth 100000 in
set_option maxHeartbeats 1000000 in
theorem cuts_far2 (haw : AwakeOk) (st sp : Int) (A B : Option Addr) (c d : Nat) (xs : List Nat) (ms : List Mk) (n0 n1 n2 : Nat) (w : World) (haW : Aw w) (hA : Rd w A (flts xs)) (hB : Rd w B (markC ms)) (hlc : xs.length ≤ c) (hx : xs.length ≤ 9223372036854775807) (hm : ms.length ≤ 9223372036854775807) (hs : shortRB xs.length ms = true) (hl : 30 < xs.length) (hl2 : xs.length ≤ 4097) :
 Calls Tryz.prog 5 #[.agg #[.int .i64 st, .int .i64 sp, .slice A xs.length c, .slice B ms.length d], .agg #[.int .u8 (n0 : Int), .int .u8 (n1 : Int), .int .u8 (n2 : Int)]] w fun e w' => e = .returned (.bool true) ∧ Below w.heap.size w w' := by
 have HS0 := Lib.hid (CpS.new (L0 := [.int .i64 st, .int .i64 sp, .slice A xs.length c, .slice B ms.length d]) (L1 := [.int .u8 (n0 : Int), .int .u8 (n1 : Int), .int .u8 (n2 : Int)]) hA hB haW)
 have HSH : Hid (∀ W, Rd W B (markC ms) → Calls Tryz.prog 27 #[.agg #[.int .i64 st, .int .i64 sp, .slice A xs.length c, .slice B ms.length d]] W fun e w' => e = .returned (.bool true) ∧ Below W.heap.size W w') := fun W h => by
  have k := shortRecording_any st sp A B xs.length c ms.length d ms W h rfl hx hm
  rw [hs] at k; exact k
 clear haW hA hB hs
 go_enter Tryz.func5, Tryz.ntmps5
 go_upto_region 1 with fail
 refine genR (CpS w A B xs ms [.int .i64 st, .int .i64 sp, .slice A xs.length c, .slice B ms.length d] [.int .u8 (n0 : Int), .int .u8 (n1 : Int), .int .u8 (n2 : Int)]) HS0.out ?_
 clear HS0
 intro W1 s1
 have HS1 := Lib.hid s1
 clear s1
 go_cut [58] from 33 to 58 (fun s58 wx => s58 = .bool true ∧ CpS w A B xs ms [.int .i64 st, .int .i64 sp, .slice A xs.length c, .slice B ms.length d] [.int .u8 (n0 : Int), .int .u8 (n1 : Int), .int .u8 (n2 : Int)] wx)
 case first =>
  have c0 := HS1.out.1.cell 0; have c1 := HS1.out.1.cell 1; have c2 := HS1.out.1.cell 2; have c3 := HS1.out.1.cell 3; simp only [List.getElem?_cons_succ, List.getElem?_cons_zero] at c0 c1 c2 c3
  go_wp2_with (first
   | (go_at_call 27; refine (HSH.out _ HS1.out.2.2.2.1).mono ?_; rintro e w1 ⟨rfl, hb1⟩; have HS2 := Lib.hid (HS1.out.keep hb1); clear hb1; have p0 := HS2.out.1.cell 0; have p1 := HS2.out.1.cell 1; have p2 := HS2.out.1.cell 2; have p3 := HS2.out.1.cell 3; simp only [List.getElem?_cons_succ, List.getElem?_cons_zero] at p0 p1 p2 p3))
  go_meet
  exact ⟨rfl, HS2.out⟩
 case rest =>
 obtain ⟨rfl, s2⟩ := hcut
 have HS3 := Lib.hid s2
 clear s2 HS1 HSH
 go_wp2_with (go_at_call 20; refine (haw _ HS3.out.2.2.2.2.1).mono ?_; rintro e w5 ⟨rfl, hb5⟩; have HS4 := Lib.hid (HS3.out.keep hb5); clear hb5)
 go_ret
 exact ⟨rfl, HS4.out.2.2.2.2.2⟩
set_option maxRecDepth 100000 in
set_option maxHeartbeats 1000000 in
theorem cuts_far3 (haw : AwakeOk) (st sp : Int) (A B : Option Addr) (c d : Nat) (xs : List Nat) (ms : List Mk) (n0 n1 n2 : Nat) (w : World) (haW : Aw w) (hA : Rd w A (flts xs)) (hB : Rd w B (markC ms)) (hlc : xs.length ≤ c) (hx : xs.length ≤ 9223372036854775807) (hm : ms.length ≤ 9223372036854775807) (hs : shortRB xs.length ms = true) (hl : xs.length ≤ 30) (E : Int) (hrec : recI st sp xs ms = E) (hE : E ≠ 0) :
 Calls Tryz.prog 5 #[.agg #[.int .i64 st, .int .i64 sp, .slice A xs.length c, .slice B ms.length d], .agg #[.int .u8 (n0 : Int), .int .u8 (n1 : Int), .int .u8 (n2 : Int)]] w fun e w' => e = .returned (.bool true) ∧ Below w.heap.size w w' := by
 have HS0 := Lib.hid (CpS.new (L0 := [.int .i64 st, .int .i64 sp, .slice A xs.length c, .slice B ms.length d]) (L1 := [.int .u8 (n0 : Int), .int .u8 (n1 : Int), .int .u8 (n2 : Int)]) hA hB haW)
 have HSH : Hid (∀ W, Rd W B (markC ms) → Calls Tryz.prog 27 #[.agg #[.int .i64 st, .int .i64 sp, .slice A xs.length c, .slice B ms.length d]] W fun e w' => e = .returned (.bool true) ∧ Below W.heap.size W w') := fun W h => by
  have k := shortRecording_any st sp A B xs.length c ms.length d ms W h rfl hx hm
  rw [hs] at k; exact k
 have HCR : Hid (∀ W, Rd W A (flts xs) → Rd W B (markC ms) → Calls Tryz.prog 28 #[.agg #[.int .i64 st, .int .i64 sp, .slice A xs.length c, .slice B ms.length d]] W fun e w' => e = .returned (.int .i64 E) ∧ Below W.heap.size W w') := fun W h1 h2 => by
  have k := checkRecordingR_any st sp A B xs.length c ms.length d xs ms W h1 h2 rfl rfl hlc hx hm
  rw [hrec] at k; exact k
 have HE : (E == 0) = false := by simp [hE]
 have HE2 : decide (E = 0) = false := decide_eq_false hE
 clear haW hA hB hs hrec
 go_enter Tryz.func5, Tryz.ntmps5
 go_upto_region 1 with fail
 refine genR (CpS w A B xs ms [.int .i64 st, .int .i64 sp, .slice A xs.length c, .slice B ms.length d] [.int .u8 (n0 : Int), .int .u8 (n1 : Int), .int .u8 (n2 : Int)]) HS0.out ?_
 clear HS0
 intro W1 s1
 have HS1 := Lib.hid s1
 clear s1
 go_cut [58] from 33 to 58 (fun s58 wx => s58 = .bool true ∧ CpS w A B xs ms [.int .i64 st, .int .i64 sp, .slice A xs.length c, .slice B ms.length d] [.int .u8 (n0 : Int), .int .u8 (n1 : Int), .int .u8 (n2 : Int)] wx)
 case first =>
  have c0 := HS1.out.1.cell 0; have c1 := HS1.out.1.cell 1; have c2 := HS1.out.1.cell 2; have c3 := HS1.out.1.cell 3; simp only [List.getElem?_cons_succ, List.getElem?_cons_zero] at c0 c1 c2 c3
  go_wp2_with (first
   | (go_at_call 27; refine (HSH.out _ HS1.out.2.2.2.1).mono ?_; rintro e w1 ⟨rfl, hb1⟩; have HS2 := Lib.hid (HS1.out.keep hb1); clear hb1; have p0 := HS2.out.1.cell 0; have p1 := HS2.out.1.cell 1; have p2 := HS2.out.1.cell 2; have p3 := HS2.out.1.cell 3; simp only [List.getElem?_cons_succ, List.getElem?_cons_zero] at p0 p1 p2 p3)
   | (go_at_call 28; refine (HCR.out _ HS2.out.2.2.1 HS2.out.2.2.2.1).mono ?_; rintro e w2 ⟨rfl, hb2⟩; have HS3 := Lib.hid (HS2.out.keep hb2); clear hb2; have q0 := HS3.out.1.cell 0; have q1 := HS3.out.1.cell 1; have q2 := HS3.out.1.cell 2; have q3 := HS3.out.1.cell 3; simp only [List.getElem?_cons_succ, List.getElem?_cons_zero] at q0 q1 q2 q3))
  go_meet
  exact ⟨rfl, HS3.out⟩
 case rest =>
 obtain ⟨rfl, s2⟩ := hcut
 have HS3 := Lib.hid s2
 clear s2 HS1 HSH
 go_wp2_with (go_at_call 20; refine (haw _ HS3.out.2.2.2.2.1).mono ?_; rintro e w5 ⟨rfl, hb5⟩; have HS4 := Lib.hid (HS3.out.keep hb5); clear hb5)
 go_ret
 exact ⟨rfl, HS4.out.2.2.2.2.2⟩
set_option maxRecDepth 100000 in
set_option maxHeartbeats 1000000 in
theorem cuts_far4 (haw : AwakeOk) (st sp : Int) (A B : Option Addr) (c d : Nat) (xs : List Nat) (ms : List Mk) (n0 n1 n2 : Nat) (w : World) (haW : Aw w) (hA : Rd w A (flts xs)) (hB : Rd w B (markC ms)) (hlc : xs.length ≤ c) (hx : xs.length ≤ 9223372036854775807) (hm : ms.length ≤ 9223372036854775807) (hs : shortRB xs.length ms = true) (hl : xs.length ≤ 30) (hrec : recI st sp xs ms = 0) (hst : 0 ≤ st ∧ st ≤ 100000000) (hsp : 1 ≤ sp ∧ sp ≤ 1000) (pl : Int) (hpl : sp * (xs.length : Int) = pl) (hpl0 : 0 ≤ pl ∧ pl ≤ 1000000) (hbig : 100000000 < st + pl) :
 Calls Tryz.prog 5 #[.agg #[.int .i64 st, .int .i64 sp, .slice A xs.length c, .slice B ms.length d], .agg #[.int .u8 (n0 : Int), .int .u8 (n1 : Int), .int .u8 (n2 : Int)]] w fun e w' => e = .returned (.bool true) ∧ Below w.heap.size w w' := by
 have HS0 := Lib.hid (CpS.new (L0 := [.int .i64 st, .int .i64 sp, .slice A xs.length c, .slice B ms.length d]) (L1 := [.int .u8 (n0 : Int), .int .u8 (n1 : Int), .int .u8 (n2 : Int)]) hA hB haW)
 have HSH : Hid (∀ W, Rd W B (markC ms) → Calls Tryz.prog 27 #[.agg #[.int .i64 st, .int .i64 sp, .slice A xs.length c, .slice B ms.length d]] W fun e w' => e = .returned (.bool true) ∧ Below W.heap.size W w') := fun W h => by
  have k := shortRecording_any st sp A B xs.length c ms.length d ms W h rfl hx hm
  rw [hs] at k; exact k
 have HCR : Hid (∀ W, Rd W A (flts xs) → Rd W B (markC ms) → Calls Tryz.prog 28 #[.agg #[.int .i64 st, .int .i64 sp, .slice A xs.length c, .slice B ms.length d]] W fun e w' => e = .returned (.int .i64 0) ∧ Below W.heap.size W w') := fun W h1 h2 => by
  have k := checkRecordingR_any st sp A B xs.length c ms.length d xs ms W h1 h2 rfl rfl hlc hx hm
  rw [hrec] at k; exact k
 have HPL := Lib.hid hpl
 clear haW hA hB hs hrec hpl
 go_enter Tryz.func5, Tryz.ntmps5
 go_upto_region 1 with fail
 refine genR (CpS w A B xs ms [.int .i64 st, .int .i64 sp, .slice A xs.length c, .slice B ms.length d] [.int .u8 (n0 : Int), .int .u8 (n1 : Int), .int .u8 (n2 : Int)]) HS0.out ?_
 clear HS0
 intro W1 s1
 have HS1 := Lib.hid s1
 clear s1
 go_cut [58] from 33 to 58 (fun s58 wx => s58 = .bool true ∧ CpS w A B xs ms [.int .i64 st, .int .i64 sp, .slice A xs.length c, .slice B ms.length d] [.int .u8 (n0 : Int), .int .u8 (n1 : Int), .int .u8 (n2 : Int)] wx)
 case first =>
  have c0 := HS1.out.1.cell 0; have c1 := HS1.out.1.cell 1; have c2 := HS1.out.1.cell 2; have c3 := HS1.out.1.cell 3; simp only [List.getElem?_cons_succ, List.getElem?_cons_zero] at c0 c1 c2 c3
  have hpl' := HPL.out
  go_wp2_with (first
   | (go_at_call 27; refine (HSH.out _ HS1.out.2.2.2.1).mono ?_; rintro e w1 ⟨rfl, hb1⟩; have HS2 := Lib.hid (HS1.out.keep hb1); clear hb1; have p0 := HS2.out.1.cell 0; have p1 := HS2.out.1.cell 1; have p2 := HS2.out.1.cell 2; have p3 := HS2.out.1.cell 3; simp only [List.getElem?_cons_succ, List.getElem?_cons_zero] at p0 p1 p2 p3)
   | (go_at_call 28; refine (HCR.out _ HS2.out.2.2.1 HS2.out.2.2.2.1).mono ?_; rintro e w2 ⟨rfl, hb2⟩; have HS3 := Lib.hid (HS2.out.keep hb2); clear hb2; have q0 := HS3.out.1.cell 0; have q1 := HS3.out.1.cell 1; have q2 := HS3.out.1.cell 2; have q3 := HS3.out.1.cell 3; simp only [List.getElem?_cons_succ, List.getElem?_cons_zero] at q0 q1 q2 q3))
  go_meet
  exact ⟨rfl, HS3.out⟩
 case rest =>
 obtain ⟨rfl, s2⟩ := hcut
 have HS3 := Lib.hid s2
 clear s2 HS1 HSH
 go_wp2_with (go_at_call 20; refine (haw _ HS3.out.2.2.2.2.1).mono ?_; rintro e w5 ⟨rfl, hb5⟩; have HS4 := Lib.hid (HS3.out.keep hb5); clear hb5)
 go_ret
 exact ⟨rfl, HS4.out.2.2.2.2.2⟩
end Go.Proofs.YtkfkmnfejeocpaaGreatDoor
