import Derived.Test.YtjdniebjhilooaaGreatDoorM29
import Derived.IntWalk
namespace Go.Proofs.YtjdniebjhilooaaGreatDoor
set_option linter.all false
open Go.RowKit Go.Fl
theorem codeL_small : ∀ k : Fin 26, (codeL k).length ≤ 8 ∧ ∀ c ∈ codeL k, c.toNat < 128 := by decide +kernel
theorem codeS_size (k : Nat) (hk : k < 26) : (codeS k).size ≤ 100 := by
 have := (codeL_small ⟨k, hk⟩).1
 show (codeL k).toArray.size ≤ 100
 simp at this ⊢; omega
theorem codeS_asc (k : Nat) (hk : k < 26) : ∀ i (h : i < (codeS k).size), ((codeS k)[i]'h).toNat < 128 := by
 intro i h
 have h2 := (codeL_small ⟨k, hk⟩).2
 exact h2 _ (Array.mem_toList_iff.2 (Array.getElem_mem (xs := (codeS k).data) h))
theorem codeS_list (k : Nat) : (codeS k).data.toList = codeL k := rfl
def keyP (d : Nat) (l : List UInt8) : Nat → List Nat
 | 0 => []
 | p + 1 => keyP d l p ++ ((if p = 0 then [] else List.replicate (3 * d) 0) ++ letS d (codeL ((l.getD p 0).toNat - 65)))
def keyedL (d : Nat) (l : List UInt8) : List Nat := keyP d l l.length ++ List.replicate (7 * d) 0
theorem letS_le (d k : Nat) (hk : k < 26) : (letS d (codeL k)).length ≤ 32 * d := by
 have h1 := letP_le d (codeL k) (codeL k).length
 have h2 := (codeL_small ⟨k, hk⟩).1
 have h3 : (codeL k).length * (4 * d) ≤ 8 * (4 * d) := Nat.mul_le_mul_right _ h2
 unfold letS; omega
theorem keyP_le (d : Nat) (l : List UInt8) (p : Nat) (hp : p ≤ l.length) (h : ∀ c ∈ l, 65 ≤ c.toNat ∧ c.toNat ≤ 90) : (keyP d l p).length ≤ p * (35 * d) := by
 induction p with
 | zero => simp [keyP]
 | succ p ih =>
   have ih := ih (by omega)
   have hm : l.getD p 0 ∈ l := by rw [List.getD_eq_getElem?_getD, List.getElem?_eq_getElem (by omega)]; exact List.getElem_mem _
   have hc := h _ hm
   have := letS_le d ((l.getD p 0).toNat - 65) (by omega)
   have e : (p + 1) * (35 * d) = p * (35 * d) + 35 * d := by rw [Nat.add_mul, Nat.one_mul]
   rw [keyP, List.length_append, List.length_append, e]
   split
   · simp only [List.length_nil]; omega
   · simp only [List.length_replicate]; omega
theorem Tz.step {w w1 : World} {u : Value} (h : Tz w) (k : Step w w1 (.slice none 0 0) u) : Tz w1 := k.1.cell h (by intro hh; cases hh)
theorem caps_of {l : List UInt8} (h : wordI l = 0) : l.isEmpty = false ∧ l.length ≤ 4 ∧ ∀ c ∈ l, 65 ≤ c.toNat ∧ c.toNat ≤ 90 := by
 cases he : l.isEmpty with
 | true => rw [List.isEmpty_iff.1 he, wordI_empty] at h; cases h
 | false =>
   by_cases h4 : 4 < l.length
   · rw [wordI_long h4] at h; cases h
   · rw [wordI_short he (by omega)] at h
     refine ⟨rfl, by omega, fun c hc => ?_⟩
     have hall : l.all (fun c => capB (u8I c)) = true := by
      cases ha : l.all (fun c => capB (u8I c)) with
      | true => rfl
      | false => rw [ha] at h; cases h
     have h2 := List.all_eq_true.1 hall c hc
     have h3 : (decide ((65 : Int) ≤ (c.toNat : Int)) && decide ((c.toNat : Int) ≤ 90)) = true := h2
     rw [Bool.and_eq_true, decide_eq_true_eq, decide_eq_true_eq] at h3
     omega
set_option maxRecDepth 100000 in
set_option maxHeartbeats 2000000 in
theorem keyed_ok (s : ByteArray) (d : Nat) (w : World) (hT : Tz w) (hd : 1 ≤ d) (hd2 : d ≤ 16) (hw : wordI s.data.toList = 0) :
 Calls Tryz.prog 25 #[.string s, .int .i64 d] w fun e w' => ∃ v, e = .returned (.tuple #[v, .int .i64 0]) ∧ w'.ownsRow w.heap.size 56 1 v (keyedL d s.data.toList).length (flts (keyedL d s.data.toList)) ∧ Below w.heap.size w w' := by
 obtain ⟨hc0, hc1, hc2⟩ := caps_of hw
 have HT := Lib.hid hT
 have HW := Lib.hid hw
 have HC := Lib.hid hc2
 have hsz : s.size ≤ 4 := by simpa using hc1
 have hr0 : rangeB (d : Int) 1 16 = false := by unfold rangeB; simp; omega
 have HR0 := Lib.hid hr0
 clear hT hw hc0 hc1 hc2 hr0
 go_enter Tryz.func25, Tryz.ntmps25
 go_wp2_with fail
 refine (checkWord_any _ _).mono ?_
 rintro e w1 ⟨rfl, hb1⟩
 rw [HW.out]
 go_wp2_with (first | (go_at_call 78; refine (between_any _ _ _ _).mono ?_; rintro e w' ⟨rfl, rfl⟩; rw [HR0.out]) | (go_at_call 76; refine (firstV_any _ _ _ [0, whenI false 3] _ ?_ rfl (by simp)).mono ?_; (exact Rd.new _ _ _ _ (by simp)); rintro e w' ⟨rfl, rfl⟩))
 have HB1 := Lib.hid hb1
 have HT1 : Hid (Tz w1) := HT.out.old hb1
 clear hb1
 go_loopg [7] s.size (fun g u wr => ∃ p : Nat, p ≤ s.size ∧ g = s.size - p ∧ Hid (wr.heap[w1.heap.size + 1]? = some (.stringIter s p)) ∧ Hid (wr.ownsRow w.heap.size 56 1 u (keyP d s.data.toList p).length (flts (keyP d s.data.toList p))) ∧ Hid (Step w1 wr (.slice none 0 0) u) ∧ Hid (u.ownBlock ≠ some (w1.heap.size + 1)))
 case atStart =>
  refine ⟨0, Nat.zero_le _, rfl, ?_, World.ownsRow_nil _ _ _ _, ((Step.refl w1 (.slice none 0 0)).alloc _).alloc _, fun h => by cases h⟩
  have h := World.iter_heap (w1.alloc (.cells #[.int .i64 0, .int .i64 (whenI false 3)] 28)) s 0
  rw [World.size_alloc] at h
  exact h
 case round =>
  obtain ⟨p, hp, hg, Hit, Ho, Hst, Hne⟩ := hrel
  subst hg
  have HB9 := Lib.hid HB1.out.size
  by_cases hlt : p < s.size
  · have hcap := HC.out s[p] (by exact Array.mem_toList_iff.2 (Array.getElem_mem (xs := s.data) hlt))
    obtain ⟨k, hk⟩ : ∃ k, s[p].toNat = 65 + k := ⟨s[p].toNat - 65, by omega⟩
    have hk26 : k < 26 := by omega
    have hnx := fun ty => Lib.run_next_ascii_at (P := Tryz.prog) wr (w1.heap.size + 1) s p ty Hit.out hlt (by omega)
    have Hit1 := Lib.hid (Lib.iterAt_heap wr (w1.heap.size + 1) s p (p + 1) Hit.out)
    have Ho1 := Lib.hid (owns_iter Ho.out Hne.out s (p + 1))
    have Hst1 := Lib.hid (Hst.out.iter (Nat.le_succ _) s (p + 1))
    have hsz1 : w1.heap.size + 1 + 1 ≤ (wr.iterAt (w1.heap.size + 1) s (p + 1)).heap.size := (Array.getElem?_eq_some_iff.1 Hit1.out).1
    have Hsz1 := Lib.hid hsz1
    obtain ⟨W, hW⟩ : ∃ W, W = wr.iterAt (w1.heap.size + 1) s (p + 1) := ⟨_, rfl⟩
    rw [← hW] at hnx Hit1 Ho1 Hst1 Hsz1
    rw [hk] at hnx
    have hget : s.data.toList.getD p 0 = s[p] := by rw [List.getD_eq_getElem?_getD, List.getElem?_eq_getElem (by simpa using hlt)]; rfl
    have hstep : keyP d s.data.toList (p + 1) = keyP d s.data.toList p ++ ((if p = 0 then [] else List.replicate (3 * d) 0) ++ letS d (codeL k)) := by rw [keyP, hget, hk, Nat.add_sub_cancel_left]
    have Hstep := Lib.hid hstep
    have hle := keyP_le d s.data.toList p (by simpa using hp) HC.out
    have hlen : (keyP d s.data.toList p).length ≤ 50000 := by
     have : p * (35 * d) ≤ 4 * (35 * 16) := Nat.mul_le_mul (by omega) (by omega)
     omega
    have Hlen := Lib.hid hlen
    obtain ⟨ys, hys⟩ : ∃ ys, ys = keyP d s.data.toList p := ⟨_, rfl⟩
    rw [← hys] at Ho1 Hlen
    have Hys := Lib.hid hys
    have HTW : Hid (Tz W) := HT1.out.step Hst1.out
    have HBW : Hid (w.heap.size ≤ W.heap.size) := by have := HB9.out; have := Hsz1.out; show _ ≤ _; omega
    have h3 : ((3 : Int) * (d : Int)).toNat = 3 * d := by omega
    have H3 := Lib.hid h3
    have wk1 : IntKind.i32.wrap (65 + (k : Int) - 65) = (k : Int) := by rw [show 65 + (k : Int) - 65 = k by omega]; exact IntWalk.i32_in _ (by omega)
    have wk2 : IntKind.i64.wrap (k : Int) = (k : Int) := IntWalk.i64_in _ (by omega)
    clear hsz1 hW hget hstep hle hlen hys h3 hcap
    by_cases hp0 : p = 0
    · have HP : Hid ((p = 0) = True) := by unfold Hid; simp [hp0]
      have hp0b : decide (0 < p) = false := by simp; omega
      clear hp0
      go_wp2_with (go_at_call 86; refine (code_any k hk26 _ HTW.out).mono ?_; rintro e w2 ⟨rfl, hb2⟩)
      have HO2 := Lib.hid (owns_below Ho1.out hb2)
      have HS1 : Hid (Step W w2 u7 u7) := ⟨⟨hb2.os, hb2.tape, hb2.output, hb2.size, fun j hj _ => hb2.block j hj⟩, .inl rfl⟩
      have hl2 : ys.length ≤ 100000 := by have := Hlen.out; omega
      have Hl2 := Lib.hid hl2
      have hB2 : w.heap.size ≤ w2.heap.size := by have := HBW.out; have := hb2.size; omega
      have HB2 := Lib.hid hB2
      clear hb2 hl2 hB2
      go_wp2_with fail
      refine (letterKeyed_any w.heap.size u7 ys (codeS k) d _ HO2.out HB2.out hd2 (codeS_size k hk26) Hl2.out (codeS_asc k hk26)).mono ?_
      rintro e w3 ⟨v3, rfl, ho3, hst3⟩
      rw [codeS_list] at ho3
      have hst2 := HS1.out.trans hst3
      clear hst3
      have Hit2 := Lib.hid (hst2.heap Hit1.out (Ne.symm Hne.out))
      have Hne2 := Lib.hid (hst2.ne Hne.out (by have := Hsz1.out; omega))
      have Hst2 := Lib.hid (Hst1.out.trans hst2)
      have Ho2 : Hid (w3.ownsRow w.heap.size 56 1 v3 (keyP d s.data.toList (p + 1)).length (flts (keyP d s.data.toList (p + 1)))) := by
       have e : keyP d s.data.toList (p + 1) = ys ++ letS d (codeL k) := by rw [Hstep.out, ← Hys.out]; simp [HP.out]
       unfold Hid; rw [e]; exact ho3
      clear ho3 hst2
      go_wp2
      go_roundg (s.size - (p + 1))
      case measure => omega
      case rel => exact ⟨p + 1, by omega, rfl, Hit2, Ho2, Hst2, Hne2⟩
    · have HP : Hid ((p = 0) = False) := by unfold Hid; simp [hp0]
      have hp0b : decide (0 < p) = true := by simp; omega
      clear hp0
      go_wp2_with fail
      refine (held_step w.heap.size u7 ys 0 (3 * (d : Int)) _ Ho1.out HBW.out (by omega) (by have := Hlen.out; omega)).mono ?_
      rintro e w2 ⟨v2, rfl, ho2, hst1⟩
      simp only [H3.out] at ho2
      have HO2 := Lib.hid ho2
      have HS1 := Lib.hid hst1
      have HTW2 : Hid (Tz w2) := HT1.out.step (Hst1.out.trans hst1)
      have hB2 : w.heap.size ≤ w2.heap.size := by have := HBW.out; have := hst1.1.size; omega
      have HB2 := Lib.hid hB2
      have hl2 : (ys ++ List.replicate (3 * d) 0).length ≤ 100000 := by rw [List.length_append, List.length_replicate]; have := Hlen.out; omega
      have Hl2 := Lib.hid hl2
      clear ho2 hst1 hB2 hl2
      go_wp2_with (go_at_call 86; refine (code_any k hk26 _ HTW2.out).mono ?_; rintro e w3 ⟨rfl, hb3⟩)
      have HO3 := Lib.hid (owns_below HO2.out hb3)
      have HS2 : Hid (Step w2 w3 v2 v2) := ⟨⟨hb3.os, hb3.tape, hb3.output, hb3.size, fun j hj _ => hb3.block j hj⟩, .inl rfl⟩
      have hB3 : w.heap.size ≤ w3.heap.size := by have := HB2.out; have := hb3.size; omega
      have HB3 := Lib.hid hB3
      clear hb3 hB3
      go_wp2_with fail
      refine (letterKeyed_any w.heap.size v2 (ys ++ List.replicate (3 * d) 0) (codeS k) d _ HO3.out HB3.out hd2 (codeS_size k hk26) Hl2.out (codeS_asc k hk26)).mono ?_
      rintro e w4 ⟨v4, rfl, ho4, hst4⟩
      rw [codeS_list] at ho4
      have hst2 := (HS1.out.trans HS2.out).trans hst4
      clear hst4
      have Hit2 := Lib.hid (hst2.heap Hit1.out (Ne.symm Hne.out))
      have Hne2 := Lib.hid (hst2.ne Hne.out (by have := Hsz1.out; omega))
      have Hst2 := Lib.hid (Hst1.out.trans hst2)
      have Ho2 : Hid (w4.ownsRow w.heap.size 56 1 v4 (keyP d s.data.toList (p + 1)).length (flts (keyP d s.data.toList (p + 1)))) := by
       have e : keyP d s.data.toList (p + 1) = ys ++ List.replicate (3 * d) 0 ++ letS d (codeL k) := by rw [Hstep.out, ← Hys.out]; simp [HP.out]
       unfold Hid; rw [e]; exact ho4
      clear ho4 hst2
      go_wp2
      go_roundg (s.size - (p + 1))
      case measure => omega
      case rel => exact ⟨p + 1, by omega, rfl, Hit2, Ho2, Hst2, Hne2⟩
  · have hnx := fun ty => Lib.run_next_end_at (P := Tryz.prog) wr (w1.heap.size + 1) s p ty Hit.out hlt
    obtain rfl : p = s.size := by omega
    have hl : s.data.toList.length = s.size := by simp
    have hle := keyP_le d s.data.toList s.size (by simp) HC.out
    have hlen : (keyP d s.data.toList s.size).length ≤ 1000000 := by
     have : s.size * (35 * d) ≤ 4 * (35 * 16) := Nat.mul_le_mul (by omega) (by omega)
     omega
    have hBW : w.heap.size ≤ wr.heap.size := by have := HB9.out; have := Hst.out.1.size; omega
    have Hlen := Lib.hid hlen
    have HBW := Lib.hid hBW
    have HK : Hid (keyedL d s.data.toList = keyP d s.data.toList s.size ++ List.replicate (7 * d) 0) := by unfold Hid keyedL; rw [hl]
    have h7 : ((7 : Int) * (d : Int)).toNat = 7 * d := by omega
    have H7 := Lib.hid h7
    clear hl hle hlen hBW h7
    go_wp2_with fail
    refine (held_step w.heap.size u7 (keyP d s.data.toList s.size) 0 (7 * (d : Int)) _ Ho.out HBW.out (by omega) Hlen.out).mono ?_
    rintro e w5 ⟨v5, rfl, ho5, hst5⟩
    have HB5 : Hid (Below w.heap.size w w5) := HB1.out.trans (((Below.refl w1.heap.size w1).grown (Hst.out.trans hst5).1 (Nat.le_refl _) (fun k hk => by cases hk)).mono HB9.out)
    simp only [H7.out] at ho5
    have HO5 := Lib.hid ho5
    clear ho5 hst5
    go_wp2
    go_ret2
    exact ⟨_, rfl, by rw [HK.out]; exact HO5.out, HB5.out⟩

end Go.Proofs.YtjdniebjhilooaaGreatDoor
