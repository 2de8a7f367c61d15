import Derived.Test.YtdglifjhkjdogaaGreatDoorZ4
import Derived.Test.YtdglifjhkjdogaaGreatDoorM21
/- Contracts: Heard of the reference. -/
namespace Go.Proofs.YtdglifjhkjdogaaGreatDoor
set_option linter.all false
open Go.RowKit Go.Fl
set_option linter.unusedVariables false
set_option linter.unusedSimpArgs false

theorem emp_ne {wd : ByteArray} (h : emp wd = false) : (wd.toList == []) = false := by
  unfold emp at h
  cases hl : wd.toList with
  | nil => rw [hl] at h; cases h
  | cons a l => rfl
theorem emp_nil {wd : ByteArray} (h : emp wd = true) : (wd.toList == []) = true := by
  unfold emp at h
  rw [List.isEmpty_iff.1 h]; rfl
theorem emp_letQB (wd : ByteArray) (cs : List Bool) : emp (wd ++ letQB cs) = false := by
  unfold emp letQB
  rw [ByteArray.toList_eq, ByteArray.data_append, Array.toList_append]
  cases wd.data.toList <;> rfl
theorem ne_letQB (wd : ByteArray) (cs : List Bool) : ((wd ++ letQB cs).toList == []) = false := emp_ne (emp_letQB wd cs)
theorem st_word {d : Int} {out : List ByteArray} {wd : ByteArray} {cs : List Bool} {off : Nat} (hc : cs.isEmpty = false) (h2 : 2 * d ≤ (off : Int)) (h5 : 5 * d ≤ (off : Int)) : hrStep d (out, wd, cs, 0, off) true = (out ++ [wd ++ letQB cs], ⟨#[]⟩, [], 1, 0) := by
  have hB : flB d cs off = true := by unfold flB; rw [hc, decide_eq_true h2]; rfl
  have hW : flW d wd cs off = wd ++ letQB cs := by unfold flW; rw [hB]; rfl
  have hE : flE d (wd ++ letQB cs) off = true := by unfold flE; rw [decide_eq_true h5, emp_letQB]; rfl
  unfold hrStep flO flV flC
  simp only [hW, hE, hB, if_true]
theorem st_letter {d : Int} {out : List ByteArray} {wd : ByteArray} {cs : List Bool} {off : Nat} (hc : cs.isEmpty = false) (h2 : 2 * d ≤ (off : Int)) (h5 : ¬ 5 * d ≤ (off : Int)) : hrStep d (out, wd, cs, 0, off) true = (out, wd ++ letQB cs, [], 1, 0) := by
  have hB : flB d cs off = true := by unfold flB; rw [hc, decide_eq_true h2]; rfl
  have hW : flW d wd cs off = wd ++ letQB cs := by unfold flW; rw [hB]; rfl
  have hE : flE d (wd ++ letQB cs) off = false := by unfold flE; rw [decide_eq_false h5]; rfl
  unfold hrStep flO flV flC
  simp only [hW, hE, hB, if_true]; rfl
theorem st_none {d : Int} {out : List ByteArray} {wd : ByteArray} {cs : List Bool} {off : Nat} (hc : cs.isEmpty = true ∨ ¬ 2 * d ≤ (off : Int)) (h5 : ¬ 5 * d ≤ (off : Int) ∨ emp wd = true) : hrStep d (out, wd, cs, 0, off) true = (out, wd, cs, 1, 0) := by
  have hB : flB d cs off = false := by
    unfold flB
    rcases hc with h | h
    · rw [h]; rfl
    · rw [decide_eq_false h, Bool.and_false]
  have hW : flW d wd cs off = wd := by unfold flW; rw [hB]; rfl
  have hE : flE d wd off = false := by
    unfold flE
    rcases h5 with h | h
    · rw [decide_eq_false h]; rfl
    · rw [h, Bool.not_true, Bool.and_false]
  unfold hrStep flO flV flC
  simp only [hW, hE, hB, if_true]; rfl
theorem st_end {d : Int} {out : List ByteArray} {wd : ByteArray} {cs : List Bool} {off : Nat} (hc : cs.isEmpty = true) (h5 : 5 * d ≤ (off : Int)) (he : emp wd = false) : hrStep d (out, wd, cs, 0, off) true = (out ++ [wd], ⟨#[]⟩, cs, 1, 0) := by
  have hB : flB d cs off = false := by unfold flB; rw [hc]; rfl
  have hW : flW d wd cs off = wd := by unfold flW; rw [hB]; rfl
  have hE : flE d wd off = true := by unfold flE; rw [decide_eq_true h5, he]; rfl
  unfold hrStep flO flV flC
  simp only [hW, hE, hB, if_true]; rfl
theorem st_more {d : Int} {out : List ByteArray} {wd : ByteArray} {cs : List Bool} {on off : Nat} (h : ¬ on = 0) : hrStep d (out, wd, cs, on, off) true = (out, wd, cs, on + 1, 0) := by
  unfold hrStep; rw [if_pos rfl, if_neg h]
theorem st_code {d : Int} {out : List ByteArray} {wd : ByteArray} {cs : List Bool} {on off : Nat} (h : 0 < on) : hrStep d (out, wd, cs, on, off) false = (out, wd, cs ++ [decide (2 * d ≤ (on : Int))], 0, off + 1) := by
  unfold hrStep; rw [if_neg (by decide), if_pos h]

def smallR (r : HrS) (k : Nat) : Prop := r.1.length ≤ k ∧ r.2.1.size ≤ k ∧ r.2.2.1.length ≤ k ∧ r.2.2.2.1 ≤ k ∧ r.2.2.2.2 ≤ k
theorem letQB_size (cs : List Bool) : (letQB cs).size = 1 := rfl
theorem hrStep_small {r : HrS} {k : Nat} (h : smallR r k) (d : Int) (b : Bool) : smallR (hrStep d r b) (k + 1) := by
  obtain ⟨out, wd, cs, on, off⟩ := r
  obtain ⟨h1, h2, h3, h4, h5⟩ := h
  simp only at h1 h2 h3 h4 h5
  have hw : (flW d wd cs off).size ≤ k + 1 := by
    unfold flW; split
    · rw [ByteArray.size_append, letQB_size]; omega
    · omega
  cases b
  · unfold hrStep
    rw [if_neg (by decide)]
    refine ⟨by show out.length ≤ k + 1; omega, by show wd.size ≤ k + 1; omega, ?_, Nat.zero_le _, by show off + 1 ≤ k + 1; omega⟩
    show (if 0 < on then _ else cs : List Bool).length ≤ _
    split
    · rw [List.length_append]; simp only [List.length_cons, List.length_nil]; omega
    · omega
  · unfold hrStep
    rw [if_pos rfl]
    split
    · refine ⟨?_, ?_, ?_, by show 1 ≤ k + 1; omega, Nat.zero_le _⟩
      · show (flO d out (flW d wd cs off) off).length ≤ k + 1
        unfold flO; split
        · rw [List.length_append]; simp only [List.length_cons, List.length_nil]; omega
        · omega
      · show (flV d (flW d wd cs off) off).size ≤ k + 1
        unfold flV; split
        · exact Nat.zero_le _
        · exact hw
      · show (flC d cs off).length ≤ k + 1
        unfold flC; split
        · exact Nat.zero_le _
        · omega
    · exact ⟨by show out.length ≤ k + 1; omega, by show wd.size ≤ k + 1; omega, by show cs.length ≤ k + 1; omega, by show on + 1 ≤ k + 1; omega, Nat.zero_le _⟩
theorem goR_take (d : Int) (bs : List Bool) (k : Nat) (hk : k < bs.length) (r : HrS) : goR d (bs.take (k + 1)) r = hrStep d (goR d (bs.take k) r) bs[k] := by
  rw [List.take_add_one, List.getElem?_eq_getElem hk]
  unfold goR
  rw [List.foldl_append]
  rfl
theorem goR_small (d : Int) (bs : List Bool) (k : Nat) (hk : k ≤ bs.length) : smallR (goR d (bs.take k) ([], ⟨#[]⟩, [], 0, 0)) k := by
  induction k with
  | zero => exact ⟨Nat.le_refl _, Nat.le_refl _, Nat.le_refl _, Nat.le_refl _, Nat.le_refl _⟩
  | succ k ih => rw [goR_take d bs k (by omega)]; exact hrStep_small (ih (by omega)) d _

/-- what Heard owns on its way -/
def HrI (w : World) (out : List ByteArray) (cs : List Bool) (v u : Value) (W : World) : Prop := W.ownsRow w.heap.size 9 1 v out.length (strs out) ∧ W.ownsRow w.heap.size 4 1 u cs.length (bools cs) ∧ Below w.heap.size w W
theorem HrI.below {w W W' : World} {out : List ByteArray} {cs : List Bool} {v u : Value} (h : HrI w out cs v u W) (hb : Below W.heap.size W W') : HrI w out cs v u W' := ⟨owns_below h.1 hb, owns_below h.2.1 hb, h.2.2.trans (hb.mono h.2.2.size)⟩
theorem HrI.nilB {w W : World} {out : List ByteArray} {cs : List Bool} {v u : Value} (h : HrI w out cs v u W) : Hid (HrI w out [] v (.slice none 0 0) W) := ⟨h.1, World.ownsRow_nil _ _ _ _, h.2.2⟩
theorem HrI.app {w W W1 : World} {out : List ByteArray} {cs : List Bool} {v u v' : Value} {wd : ByteArray} {o : Obj} (h : HrI w out cs v u W) (hg : (W.alloc o).grownBy W1 v.ownBlock) (ho : W1.ownsRow w.heap.size 9 1 v' (out.length + 1) (strs out ++ [.string wd])) : HrI w (out ++ [wd]) cs v' u W1 := by
  refine ⟨?_, grew_own h.2.1 h.1 hg (by decide), (h.2.2.alloc h.2.2.size o).grown hg (by have := h.2.2.size; simp; omega) (fun j hj => (h.1.lt j hj).1)⟩
  rw [List.length_append, show strs (out ++ [wd]) = strs out ++ [.string wd] by simp [strs]]
  exact ho
theorem HrI.appB {w W W1 : World} {out : List ByteArray} {cs : List Bool} {v u u' : Value} {b : Bool} {o : Obj} (h : HrI w out cs v u W) (hg : (W.alloc o).grownBy W1 u.ownBlock) (ho : W1.ownsRow w.heap.size 4 1 u' (cs.length + 1) (bools cs ++ [.bool b])) : HrI w out (cs ++ [b]) v u' W1 := by
  refine ⟨grew_own h.1 h.2.1 hg (by decide), ?_, (h.2.2.alloc h.2.2.size o).grown hg (by have := h.2.2.size; simp; omega) (fun j hj => (h.2.1.lt j hj).1)⟩
  rw [List.length_append, show bools (cs ++ [b]) = bools cs ++ [.bool b] by simp [bools]]
  exact ho
theorem letQB_conv (cs : List Bool) (W : World) : (convert 90 9 (.slice (some ⟨W.heap.size, 0, none⟩) 1 1)).run Tryz.prog (W.alloc (.cells #[.int .u8 (letN cs 0 26 : Nat)] 5)) = .ok (.string (letQB cs)) (W.alloc (.cells #[.int .u8 (letN cs 0 26 : Nat)] 5)) := by
  have hl := letN_le cs
  refine back W #[.int .u8 (letN cs 0 26 : Nat)] 5 0 1 [UInt8.ofNat (letN cs 0 26)] rfl ?_
  intro j b hj
  match j, hj with
  | 0, hj =>
    simp only [List.getElem?_cons_zero, Option.some.injEq] at hj
    subst hj
    rw [show (UInt8.ofNat (letN cs 0 26)).toNat = letN cs 0 26 from UInt8.toNat_ofNat_of_lt' (by show _ < 256; omega)]
    rfl
  | j + 1, hj => simp at hj

set_option maxRecDepth 100000 in
set_option maxHeartbeats 4000000 in
theorem heardR_any (A : Option Addr) (n c : Nat) (xs : List Nat) (d : Int) (w : World) (hA : Rd w A (flts xs)) (hn : n = xs.length) (hm : xs.length ≤ 4096) (hv : ∀ x ∈ xs, sampI x = 0) (hd : 1 ≤ d ∧ d ≤ 16) :
    Calls Tryz.prog 22 #[.slice A n c, .int .i64 d] w fun e w' => HeardR w (heardL xs d) e w' := by
  subst hn
  have HA := Lib.hid hA; have HV := Lib.hid hv
  obtain ⟨i9, hi9, hz90, hz91, hz92⟩ := info_parts info9
  obtain ⟨i4, hi4, hz40, hz41, hz42⟩ := info_parts info4
  obtain ⟨hd1, hd2⟩ := hd
  obtain ⟨bs, hbs⟩ : ∃ bs, bs = xs.map onB ++ [false] := ⟨_, rfl⟩
  have hbl : bs.length = xs.length + 1 := by rw [hbs]; simp
  have hend : heardL xs d = finR (goR d bs ([], ⟨#[]⟩, [], 0, 0)) := by
    rw [← heardR_eq hd1, hbs]; unfold heardR goR; rw [List.foldl_append]; rfl
  have HBS := Lib.hid hbs; have HBL := Lib.hid hbl; have HEND := Lib.hid hend
  clear hA hv hbs hbl hend
  have hcv := letQB_conv
  go_enter Tryz.func22, Tryz.ntmps22
  go_wp2
  go_loopg [6, 7, 8, 9, 10, 11] (xs.length + 1) (fun g s6 s7 s8 s9 s10 s11 wr => ∃ k : Nat, k + g = xs.length + 1 ∧ s11 = .int .i64 k ∧ ∃ r : HrS, r = goR d (bs.take k) ([], ⟨#[]⟩, [], 0, 0) ∧ s7 = .string r.2.1 ∧ s9 = .int .i64 r.2.2.2.1 ∧ s10 = .int .i64 r.2.2.2.2 ∧ smallR r k ∧ Hid (HrI w r.1 r.2.2.1 s6 s8 wr))
  case atStart => exact ⟨0, by omega, rfl, _, rfl, rfl, rfl, rfl, goR_small d bs 0 (Nat.zero_le _), World.ownsRow_nil _ _ _ _, World.ownsRow_nil _ _ _ _, Below.refl _ _⟩
  case round =>
    obtain ⟨k, hk, rfl, ⟨out, wd, cs, on, off⟩, hr, rfl, rfl, rfl, hs, HI⟩ := hrel
    have HR := Lib.hid hr; have HS := Lib.hid hs
    simp only at HI
    obtain ⟨hs1, hs2, hs3, hs4, hs5⟩ := hs
    have Hs1 : Hid (out.length ≤ k) := hs1
    have Hs3 : Hid (cs.length ≤ k) := hs3
    simp only at hs2 hs4 hs5
    clear hs1 hs3
    obtain ⟨X, xc, rfl, -⟩ := owned_slice HI.out.2.1
    clear hr
    by_cases hlt : k < xs.length + 1
    · obtain ⟨f, rfl⟩ : ∃ f, gk = f + 1 := ⟨gk - 1, by omega⟩
      have Hsm : Hid (smallR (goR d (bs.take (k + 1)) ([], ⟨#[]⟩, [], 0, 0)) (k + 1)) := goR_small d bs (k + 1) (by have := HBL.out; omega)
      obtain ⟨b, hb⟩ : ∃ b, b = bs[k]'(by have := HBL.out; omega) := ⟨_, rfl⟩
      have Hnx : Hid (goR d (bs.take (k + 1)) ([], ⟨#[]⟩, [], 0, 0) = hrStep d (out, wd, cs, on, off) b) := by unfold Hid; rw [goR_take d bs k (by have := HBL.out; omega), ← HR.out, ← hb]
      by_cases hkl : k < xs.length
      · have hb2 : b = onB xs[k] := by rw [hb]; simp [HBS.out, hkl]
        obtain ⟨b1, o1, hA1, hc1⟩ := Rd.flt (HA.out.below HI.out.2.2) hkl
        subst hA1
        obtain ⟨x, hx⟩ : ∃ x, x = xs[k] := ⟨_, rfl⟩
        have Hx : Hid (sampI x = 0) := HV.out x (by rw [hx]; exact List.getElem_mem _)
        have hux := onB_unit Hx.out
        rw [← hx] at hc1 hb2
        rw [← hb2] at hux
        clear hx hb hb2
        cases b
        · have hu8 : ¬ 8 ≤ unitI x := of_decide_eq_false hux.symm
          clear hux
          by_cases ho0 : on = 0
          · subst ho0
            have hst : Hid (goR d (bs.take (k + 1)) ([], ⟨#[]⟩, [], 0, 0) = (out, wd, cs, 0, off + 1)) := by unfold Hid; rw [Hnx.out]; rfl
            go_wp2_with (go_at_call 39; refine (sixteenths_ok _ _ Hx.out).mono ?_; rintro e w1 ⟨rfl, rfl⟩)
            go_roundg f
            case measure => omega
            case rel => exact ⟨k + 1, by omega, by go_num, _, hst.out.symm, rfl, by go_num, by go_num, by have h := Hsm.out; rw [hst.out] at h; exact h, HI⟩
          · have ho1 : 0 < on := by omega
            have hst : Hid (goR d (bs.take (k + 1)) ([], ⟨#[]⟩, [], 0, 0) = (out, wd, cs ++ [decide (2 * d ≤ (on : Int))], 0, off + 1)) := by unfold Hid; rw [Hnx.out]; exact st_code ho1
            go_wp2_with (first | (go_at_call 39; refine (sixteenths_ok _ _ Hx.out).mono ?_; rintro e w1 ⟨rfl, rfl⟩) | (at_builtin; refine wpList_append_own _ rfl _ _ 154 rfl w.heap.size 4 i4 (.bool false) 1 1 Tryz.underlying154 hi4 hz40 hz41 hz42 rfl (by decide) _ cs.length (bools cs) rfl (HI.out.2.1.alloc _) ⟨wr.heap.size, 0, none⟩ 1 1 [.bool (decide (2 * d ≤ (on : Int)))] rfl rfl (news1 _ _ _ _ rfl) (by simp [Value.oneCell']) (by have := Hs3.out; unfold maxLen; omega) (by have := Hs3.out; omega) (by have := HI.out.2.2.size; simp; omega) ?_; intro v8 w3 ho3 hg3 _; have HI3 := Lib.hid (HrI.appB HI.out hg3 ho3); clear ho3 hg3))
            go_roundg f
            case measure => omega
            case rel => exact ⟨k + 1, by omega, by go_num, _, hst.out.symm, rfl, by go_num, by go_num, by have h := Hsm.out; rw [hst.out] at h; exact h, HI3⟩
        · have hu8 : 8 ≤ unitI x := of_decide_eq_true hux.symm
          clear hux
          by_cases ho0 : on = 0
          · subst ho0
            by_cases hc : 0 < cs.length
            · have hce : cs.isEmpty = false := by cases cs with | nil => simp at hc | cons a l => rfl
              by_cases h2 : 2 * d ≤ (off : Int)
              · have hne : ((wd ++ letQB cs).toList == []) = false := ne_letQB wd cs; have hq1 : (letQB cs).size ≤ 1 := Nat.le_refl _
                by_cases h5 : 5 * d ≤ (off : Int)
                · -- a letter and a word end
                  have hst : Hid (goR d (bs.take (k + 1)) ([], ⟨#[]⟩, [], 0, 0) = (out ++ [wd ++ letQB cs], ⟨#[]⟩, [], 1, 0)) := by unfold Hid; rw [Hnx.out]; exact st_word hce h2 h5
                  go_wp2_with (first | (go_at_call 39; refine (sixteenths_ok _ _ Hx.out).mono ?_; rintro e w1 ⟨rfl, rfl⟩) | (go_at_call 81; refine (letterR_any X xc cs _ (owned_rd HI.out.2.1) (by have := Hs3.out; omega)).mono ?_; rintro e w2 ⟨rfl, hb2⟩; have HI2 := Lib.hid ((HI.out.below hb2).below ((Below.refl _ _).alloc (Nat.le_refl _) (.cells #[.int .u8 (letN cs 0 26 : Nat)] 5))); clear hb2) | (at_builtin; refine wpList_append_own _ rfl _ _ 41 rfl w.heap.size 9 i9 (.string ⟨#[]⟩) 1 16 Tryz.underlying41 hi9 hz90 hz91 hz92 rfl (by decide) _ out.length (strs out) rfl (HI2.out.1.alloc _) _ 1 1 [.string (wd ++ letQB cs)] rfl rfl (news1 _ _ _ _ (by first | rfl | simp)) (by simp [Value.oneCell']) (by have := Hs1.out; unfold maxLen; omega) (by have := Hs1.out; omega) (by have := HI2.out.2.2.size; first | omega | (simp at this ⊢; omega) | (simp; omega)) ?_; intro v6 w3 ho3 hg3 _; have HI3 := Lib.hid (HrI.app HI2.out hg3 ho3); clear ho3 hg3))
                  go_roundg f
                  case measure => omega
                  case rel => exact ⟨k + 1, by omega, by go_num, _, hst.out.symm, rfl, by go_num, by go_num, by have h := Hsm.out; rw [hst.out] at h; exact h, HrI.nilB HI3.out⟩
                · -- a letter ends
                  have hst : Hid (goR d (bs.take (k + 1)) ([], ⟨#[]⟩, [], 0, 0) = (out, wd ++ letQB cs, [], 1, 0)) := by unfold Hid; rw [Hnx.out]; exact st_letter hce h2 h5
                  go_wp2_with (first | (go_at_call 39; refine (sixteenths_ok _ _ Hx.out).mono ?_; rintro e w1 ⟨rfl, rfl⟩) | (go_at_call 81; refine (letterR_any X xc cs _ (owned_rd HI.out.2.1) (by have := Hs3.out; omega)).mono ?_; rintro e w2 ⟨rfl, hb2⟩; have HI2 := Lib.hid ((HI.out.below hb2).below ((Below.refl _ _).alloc (Nat.le_refl _) (.cells #[.int .u8 (letN cs 0 26 : Nat)] 5))); clear hb2))
                  go_roundg f
                  case measure => omega
                  case rel => exact ⟨k + 1, by omega, by go_num, _, hst.out.symm, rfl, by go_num, by go_num, by have h := Hsm.out; rw [hst.out] at h; exact h, HrI.nilB HI2.out⟩
              · have h5 : ¬ 5 * d ≤ (off : Int) := by omega
                have hst : Hid (goR d (bs.take (k + 1)) ([], ⟨#[]⟩, [], 0, 0) = (out, wd, cs, 1, 0)) := by unfold Hid; rw [Hnx.out]; exact st_none (Or.inr h2) (Or.inl h5)
                go_wp2_with (go_at_call 39; refine (sixteenths_ok _ _ Hx.out).mono ?_; rintro e w1 ⟨rfl, rfl⟩)
                go_roundg f
                case measure => omega
                case rel => exact ⟨k + 1, by omega, by go_num, _, hst.out.symm, rfl, by go_num, by go_num, by have h := Hsm.out; rw [hst.out] at h; exact h, HI⟩
            · have hce : cs.isEmpty = true := by cases cs with | nil => rfl | cons a l => simp at hc
              by_cases h5 : 5 * d ≤ (off : Int)
              · cases he : emp wd
                · have hne : (wd.toList == []) = false := emp_ne he
                  have hst : Hid (goR d (bs.take (k + 1)) ([], ⟨#[]⟩, [], 0, 0) = (out ++ [wd], ⟨#[]⟩, cs, 1, 0)) := by unfold Hid; rw [Hnx.out]; exact st_end hce h5 he
                  go_wp2_with (first | (go_at_call 39; refine (sixteenths_ok _ _ Hx.out).mono ?_; rintro e w1 ⟨rfl, rfl⟩) | (at_builtin; refine wpList_append_own _ rfl _ _ 41 rfl w.heap.size 9 i9 (.string ⟨#[]⟩) 1 16 Tryz.underlying41 hi9 hz90 hz91 hz92 rfl (by decide) _ out.length (strs out) rfl (HI.out.1.alloc _) _ 1 1 [.string wd] rfl rfl (news1 _ _ _ _ (by first | rfl | simp)) (by simp [Value.oneCell']) (by have := Hs1.out; unfold maxLen; omega) (by have := Hs1.out; omega) (by have := HI.out.2.2.size; first | omega | (simp at this ⊢; omega) | (simp; omega)) ?_; intro v6 w3 ho3 hg3 _; have HI3 := Lib.hid (HrI.app HI.out hg3 ho3); clear ho3 hg3))
                  go_roundg f
                  case measure => omega
                  case rel => exact ⟨k + 1, by omega, by go_num, _, hst.out.symm, rfl, by go_num, by go_num, by have h := Hsm.out; rw [hst.out] at h; exact h, HI3⟩
                · have hne : (wd.toList == []) = true := emp_nil he
                  have hst : Hid (goR d (bs.take (k + 1)) ([], ⟨#[]⟩, [], 0, 0) = (out, wd, cs, 1, 0)) := by unfold Hid; rw [Hnx.out]; exact st_none (Or.inl hce) (Or.inr he)
                  go_wp2_with (go_at_call 39; refine (sixteenths_ok _ _ Hx.out).mono ?_; rintro e w1 ⟨rfl, rfl⟩)
                  go_roundg f
                  case measure => omega
                  case rel => exact ⟨k + 1, by omega, by go_num, _, hst.out.symm, rfl, by go_num, by go_num, by have h := Hsm.out; rw [hst.out] at h; exact h, HI⟩
              · skip
                have hst : Hid (goR d (bs.take (k + 1)) ([], ⟨#[]⟩, [], 0, 0) = (out, wd, cs, 1, 0)) := by unfold Hid; rw [Hnx.out]; exact st_none (Or.inl hce) (Or.inl h5)
                go_wp2_with (go_at_call 39; refine (sixteenths_ok _ _ Hx.out).mono ?_; rintro e w1 ⟨rfl, rfl⟩)
                go_roundg f
                case measure => omega
                case rel => exact ⟨k + 1, by omega, by go_num, _, hst.out.symm, rfl, by go_num, by go_num, by have h := Hsm.out; rw [hst.out] at h; exact h, HI⟩
          · have ho1 : 0 < on := by omega
            have hst : Hid (goR d (bs.take (k + 1)) ([], ⟨#[]⟩, [], 0, 0) = (out, wd, cs, on + 1, 0)) := by unfold Hid; rw [Hnx.out]; exact st_more ho0
            go_wp2_with (go_at_call 39; refine (sixteenths_ok _ _ Hx.out).mono ?_; rintro e w1 ⟨rfl, rfl⟩)
            go_roundg f
            case measure => omega
            case rel => exact ⟨k + 1, by omega, by go_num, _, hst.out.symm, rfl, by go_num, by go_num, by have h := Hsm.out; rw [hst.out] at h; exact h, HI⟩
      · have hb2 : b = false := by rw [hb]; simp [HBS.out, show k = xs.length by omega]
        clear hb
        subst hb2
        by_cases ho0 : on = 0
        · subst ho0
          have hst : Hid (goR d (bs.take (k + 1)) ([], ⟨#[]⟩, [], 0, 0) = (out, wd, cs, 0, off + 1)) := by unfold Hid; rw [Hnx.out]; rfl
          go_wp2_with fail
          go_roundg f
          case measure => omega
          case rel => exact ⟨k + 1, by omega, by go_num, _, hst.out.symm, rfl, by go_num, by go_num, by have h := Hsm.out; rw [hst.out] at h; exact h, HI⟩
        · have ho1 : 0 < on := by omega
          have hst : Hid (goR d (bs.take (k + 1)) ([], ⟨#[]⟩, [], 0, 0) = (out, wd, cs ++ [decide (2 * d ≤ (on : Int))], 0, off + 1)) := by unfold Hid; rw [Hnx.out]; exact st_code ho1
          go_wp2_with (at_builtin; refine wpList_append_own _ rfl _ _ 154 rfl w.heap.size 4 i4 (.bool false) 1 1 Tryz.underlying154 hi4 hz40 hz41 hz42 rfl (by decide) _ cs.length (bools cs) rfl (HI.out.2.1.alloc _) ⟨wr.heap.size, 0, none⟩ 1 1 [.bool (decide (2 * d ≤ (on : Int)))] rfl rfl (news1 _ _ _ _ rfl) (by simp [Value.oneCell']) (by have := Hs3.out; unfold maxLen; omega) (by have := Hs3.out; omega) (by have := HI.out.2.2.size; simp; omega) ?_; intro v8 w3 ho3 hg3 _; have HI3 := Lib.hid (HrI.appB HI.out hg3 ho3); clear ho3 hg3)
          go_roundg f
          case measure => omega
          case rel => exact ⟨k + 1, by omega, by go_num, _, hst.out.symm, rfl, by go_num, by go_num, by have h := Hsm.out; rw [hst.out] at h; exact h, HI3⟩
    · obtain rfl : k = xs.length + 1 := by omega
      obtain ⟨Y, yc, rfl, -⟩ := owned_slice HI.out.1
      have Hfin : Hid (heardL xs d = finR (out, wd, cs, on, off)) := by unfold Hid; rw [HEND.out, HR.out, List.take_of_length_le (by have := HBL.out; omega)]
      by_cases hc : 0 < cs.length
      · have hce : cs.isEmpty = false := by cases cs with | nil => simp at hc | cons a l => rfl
        have hne : ((wd ++ letQB cs).toList == []) = false := ne_letQB wd cs; have hq1 : (letQB cs).size ≤ 1 := Nat.le_refl _
        have hfin : Hid (heardL xs d = out ++ [wd ++ letQB cs]) := by unfold Hid; rw [Hfin.out]; unfold finR addW; rw [hce]; have he := emp_letQB wd cs; unfold emp at he; simp only [Bool.false_eq_true, if_false]; rw [he]; rfl
        have hlen : (((out ++ [wd ++ letQB cs]).length : Nat) : Int) = ((out.length : Int) + 1) := by simp
        by_cases h64 : 64 < out.length + 1
        · go_wp2_with (first | (go_at_call 81; refine (letterR_any X xc cs _ (owned_rd HI.out.2.1) (by have := Hs3.out; omega)).mono ?_; rintro e w2 ⟨rfl, hb2⟩; have HI2 := Lib.hid ((HI.out.below hb2).below ((Below.refl _ _).alloc (Nat.le_refl _) (.cells #[.int .u8 (letN cs 0 26 : Nat)] 5))); clear hb2) | (at_builtin; refine wpList_append_own _ rfl _ _ 41 rfl w.heap.size 9 i9 (.string ⟨#[]⟩) 1 16 Tryz.underlying41 hi9 hz90 hz91 hz92 rfl (by decide) _ out.length (strs out) rfl (HI2.out.1.alloc _) _ 1 1 [.string (wd ++ letQB cs)] rfl rfl (news1 _ _ _ _ (by first | rfl | simp)) (by simp [Value.oneCell']) (by have := Hs1.out; unfold maxLen; omega) (by have := Hs1.out; omega) (by have := HI2.out.2.2.size; first | omega | (simp at this ⊢; omega) | (simp; omega)) ?_; intro v6 w3 ho3 hg3 _; obtain ⟨gq, cq, rfl⟩ := ownsRow_succA ho3; have HI3 := Lib.hid (HrI.app HI2.out hg3 ho3); clear ho3 hg3))
          go_ret2
          exact ⟨.slice none 0 0, by rw [hfin.out, if_pos (by simpa using h64)]; exact rfl, HI3.out.2.2⟩
        · go_wp2_with (first | (go_at_call 81; refine (letterR_any X xc cs _ (owned_rd HI.out.2.1) (by have := Hs3.out; omega)).mono ?_; rintro e w2 ⟨rfl, hb2⟩; have HI2 := Lib.hid ((HI.out.below hb2).below ((Below.refl _ _).alloc (Nat.le_refl _) (.cells #[.int .u8 (letN cs 0 26 : Nat)] 5))); clear hb2) | (at_builtin; refine wpList_append_own _ rfl _ _ 41 rfl w.heap.size 9 i9 (.string ⟨#[]⟩) 1 16 Tryz.underlying41 hi9 hz90 hz91 hz92 rfl (by decide) _ out.length (strs out) rfl (HI2.out.1.alloc _) _ 1 1 [.string (wd ++ letQB cs)] rfl rfl (news1 _ _ _ _ (by first | rfl | simp)) (by simp [Value.oneCell']) (by have := Hs1.out; unfold maxLen; omega) (by have := Hs1.out; omega) (by have := HI2.out.2.2.size; first | omega | (simp at this ⊢; omega) | (simp; omega)) ?_; intro v6 w3 ho3 hg3 _; obtain ⟨gq, cq, rfl⟩ := ownsRow_succA ho3; have HI3 := Lib.hid (HrI.app HI2.out hg3 ho3); clear ho3 hg3))
          go_ret2
          exact ⟨_, by rw [hfin.out, if_neg (by simpa using h64)]; exact ⟨rfl, HI3.out.1⟩, HI3.out.2.2⟩
      · have hce : cs.isEmpty = true := by cases cs with | nil => rfl | cons a l => simp at hc
        cases he : emp wd
        · have hne : (wd.toList == []) = false := emp_ne he
          have hfin : Hid (heardL xs d = out ++ [wd]) := by unfold Hid; rw [Hfin.out]; unfold finR addW; unfold emp at he; rw [hce]; simp only [if_true]; rw [he]; rfl
          have hlen : (((out ++ [wd]).length : Nat) : Int) = ((out.length : Int) + 1) := by simp
          by_cases h64 : 64 < out.length + 1
          · go_wp2_with (at_builtin; refine wpList_append_own _ rfl _ _ 41 rfl w.heap.size 9 i9 (.string ⟨#[]⟩) 1 16 Tryz.underlying41 hi9 hz90 hz91 hz92 rfl (by decide) _ out.length (strs out) rfl (HI.out.1.alloc _) _ 1 1 [.string wd] rfl rfl (news1 _ _ _ _ (by first | rfl | simp)) (by simp [Value.oneCell']) (by have := Hs1.out; unfold maxLen; omega) (by have := Hs1.out; omega) (by have := HI.out.2.2.size; first | omega | (simp at this ⊢; omega) | (simp; omega)) ?_; intro v6 w3 ho3 hg3 _; obtain ⟨gq, cq, rfl⟩ := ownsRow_succA ho3; have HI3 := Lib.hid (HrI.app HI.out hg3 ho3); clear ho3 hg3)
            go_ret2
            exact ⟨.slice none 0 0, by rw [hfin.out, if_pos (by simpa using h64)]; exact rfl, HI3.out.2.2⟩
          · go_wp2_with (at_builtin; refine wpList_append_own _ rfl _ _ 41 rfl w.heap.size 9 i9 (.string ⟨#[]⟩) 1 16 Tryz.underlying41 hi9 hz90 hz91 hz92 rfl (by decide) _ out.length (strs out) rfl (HI.out.1.alloc _) _ 1 1 [.string wd] rfl rfl (news1 _ _ _ _ (by first | rfl | simp)) (by simp [Value.oneCell']) (by have := Hs1.out; unfold maxLen; omega) (by have := Hs1.out; omega) (by have := HI.out.2.2.size; first | omega | (simp at this ⊢; omega) | (simp; omega)) ?_; intro v6 w3 ho3 hg3 _; obtain ⟨gq, cq, rfl⟩ := ownsRow_succA ho3; have HI3 := Lib.hid (HrI.app HI.out hg3 ho3); clear ho3 hg3)
            go_ret2
            exact ⟨_, by rw [hfin.out, if_neg (by simpa using h64)]; exact ⟨rfl, HI3.out.1⟩, HI3.out.2.2⟩
        · have hne : (wd.toList == []) = true := emp_nil he
          have hfin : Hid (heardL xs d = out) := by unfold Hid; rw [Hfin.out]; unfold finR addW; unfold emp at he; rw [hce]; simp only [if_true]; rw [he]; rfl
          have hlen : (((out).length : Nat) : Int) = ((out.length : Int)) := by simp
          by_cases h64 : 64 < out.length
          · go_wp2_with fail
            go_ret2
            exact ⟨.slice none 0 0, by rw [hfin.out, if_pos (by simpa using h64)]; exact rfl, HI.out.2.2⟩
          · go_wp2_with fail
            go_ret2
            exact ⟨_, by rw [hfin.out, if_neg (by simpa using h64)]; exact ⟨rfl, HI.out.1⟩, HI.out.2.2⟩
end Go.Proofs.YtdglifjhkjdogaaGreatDoor
