/- Contracts: each line of a string is read. -/
import Derived.Test.YtjgofnbfpoephaaGreatDoorM35
namespace Go.Proofs.YtjgofnbfpoephaaGreatDoor
set_option linter.all false
open Go.RowKit Go.Fl
set_option linter.unusedVariables false
set_option linter.unusedSimpArgs false

theorem lineR_len (i : Int) (S : PaS) (ws : List ByteArray) : (lineR i S ws).2.1.2.2.1.length ≤ S.2.2.1.length + 1 ∧ (lineR i S ws).2.1.2.2.2.length ≤ S.2.2.2.length + 1 := by
  unfold lineR
  split
  · exact ⟨Nat.le_succ _, Nat.le_succ _⟩
  · split
    · exact ⟨Nat.le_succ _, by simp [markS]⟩
    · split
      · exact ⟨by simp [sampS], Nat.le_succ _⟩
      · exact ⟨Nat.le_succ _, Nat.le_succ _⟩
def okE (b : Bool) : Int := bif b then 0 else 25
theorem linesGo_cons {i : Nat} {S : PaS} {l : ByteArray} {r : List ByteArray} : linesGo i S (l :: r) = if (stepR i S l).1 then linesGo (i + 1) (stepR i S l).2 r else (i, false, (stepR i S l).2) := rfl
theorem stepR_not {i : Int} {S : PaS} {l : ByteArray} (h : endedL l = false) : stepR i S l = (false, S) := by unfold stepR; rw [h]; rfl
theorem stepR_is {i : Int} {S : PaS} {l : ByteArray} (h : endedL l = true) : stepR i S l = ((lineR i S (wordsL (textL l))).1 && (lineR i S (wordsL (textL l))).2.2.isEmpty, (lineR i S (wordsL (textL l))).2.1) := by unfold stepR; rw [h]; rfl
/-- the words of a line, new in memory -/
theorem newWords {w0 wr : World} {R lb : Nat} {S : PaS} {all ws : List ByteArray} (h : RcI w0 R S wr) (hl : Row wr lb 9 (strs all)) :
    PaI w0 lb all R (wr.heap.size + 1) S ws ((wr.alloc (.cells (strs ws).toArray 9)).alloc (.cells #[.slice (some ⟨wr.heap.size, 0, none⟩) ws.length ws.length] 261)) := by
  have hb : Below wr.heap.size wr ((wr.alloc (.cells (strs ws).toArray 9)).alloc (.cells #[.slice (some ⟨wr.heap.size, 0, none⟩) ws.length ws.length] 261)) := ((Below.refl _ _).alloc (Nat.le_refl _) _).alloc (by simp) _
  have h2 := Row.new (wr.alloc (.cells (strs ws).toArray 9)) 261 [.slice (some ⟨wr.heap.size, 0, none⟩) ws.length ws.length]
  rw [World.size_alloc] at h2
  exact (h.old hb).pa (by have := h.below.size; omega) ⟨hl.old hb, wr.heap.size, 0, ws.length, ws, h2, (Row.new wr 9 (strs ws)).alloc _, fun j x hx => by rw [Nat.zero_add]; exact hx, Nat.le_refl _⟩

set_option maxRecDepth 100000 in
set_option maxHeartbeats 4000000 in
theorem readLines_any (w0 : World) (R : Nat) (s : ByteArray) (w : World) (hR : RcI w0 R zeroS w) (hM : Mx w0) (hs : s.size ≤ 4096) (hn : ∀ l ∈ linesL s, smallN (wordsL (textL l))) :
    Calls Tryz.prog 159 #[.string s, .func (.func 160) #[] #[.pointer (some ⟨R, 0, none⟩)]] w fun e w' => e = .returned (.tuple #[.int .i64 (linesGo 0 zeroS (linesL s)).1, .int .i64 (okE (linesGo 0 zeroS (linesL s)).2.1)]) ∧ RcI w0 R (linesGo 0 zeroS (linesL s)).2.2 w' := by
  have HM : Hid (∀ W, Below w0.heap.size w0 W → Mx W) := fun W h => hM.old h
  have HR := Lib.hid hR
  have HNN := Lib.hid hn
  have HLO := Lib.hid (linesOf_any s w (by omega) (hM.old hR.below))
  have hll := linesL_le s
  obtain ⟨out, hout⟩ : ∃ out, out = linesGo 0 zeroS (linesL s) := ⟨_, rfl⟩
  rw [← hout]
  have HO := Lib.hid hout
  obtain ⟨LL, hLL⟩ : ∃ LL, LL = linesL s := ⟨_, rfl⟩
  obtain ⟨AL, hAL⟩ : ∃ AL, AL = linesA s := ⟨_, rfl⟩
  have HGet : Hid (∀ (j : Nat) x, LL[j]? = some x → AL[j]? = some x) := by rw [hLL, hAL]; exact fun j x h => linesL_get h
  have HSm : Hid (∀ x ∈ LL, x.size ≤ 4096) := by rw [hLL]; exact fun x h => Nat.le_trans (linesL_small h) hs
  rw [← hLL] at HO HLO HNN hll
  rw [← hAL] at HLO
  clear hR hM hn hout hLL hAL
  go_enter Tryz.func159, Tryz.ntmps159
  go_wp2_with fail
  refine HLO.out.mono ?_
  rintro e w1 ⟨c, rfl, hc, hrow, hb1⟩
  obtain ⟨lb, hlb⟩ : ∃ lb, lb = w.heap.size := ⟨_, rfl⟩
  rw [← hlb] at hrow ⊢
  have HR1 := Lib.hid (HR.out.old hb1)
  have HL1 := Lib.hid hrow
  clear hlb hb1 hrow HR HLO
  go_wp2
  go_loopw [19] (fun u wr => ∃ (k : Nat) (S : PaS), k ≤ LL.length ∧ u = .int .i64 k ∧ Hid (RcI w0 R S wr) ∧ Hid (Row wr lb 9 (strs AL)) ∧ Hid (S.2.2.1.length ≤ k ∧ S.2.2.2.length ≤ k) ∧ Hid (linesGo k S (LL.drop k) = out)) (fun u _ => LL.length - (intOf u).toNat)
  case atStart => exact ⟨0, zeroS, Nat.zero_le _, rfl, HR1.out, HL1.out, ⟨Nat.le_refl _, Nat.le_refl _⟩, HO.out.symm⟩
  case round =>
    clear HR1 HL1
    obtain ⟨k, S, hk, rfl, HI, HLr, HSl, Hgo⟩ := hrel
    by_cases hlt : k < LL.length
    · obtain ⟨l, hl⟩ : ∃ l, l = LL[k] := ⟨_, rfl⟩
      have hgl : LL[k]? = some l := by rw [List.getElem?_eq_getElem hlt, hl]
      have hmem : l ∈ LL := List.mem_of_getElem? hgl
      have hdrop : LL.drop k = l :: LL.drop (k + 1) := by rw [List.drop_eq_getElem_cons hlt, hl]
      have hsm := HSm.out l hmem
      have HN := Lib.hid (HNN.out l hmem)
      have q0 : wr.cell? ⟨lb, k, none⟩ = some (.string l) := by rw [HLr.out.cell]; simp only [strs, List.getElem?_map]; rw [HGet.out k l hgl]; rfl
      have Hgo2 : Hid ((if (stepR k S l).1 then linesGo (k + 1) (stepR k S l).2 (LL.drop (k + 1)) else (k, false, (stepR k S l).2)) = out) := by
        have := Hgo.out; rw [hdrop, linesGo_cons] at this; exact this
      have hts := textL_small l
      have hwl := wordsL_le (textL l)
      have HP : Hid _ := Lib.hid (newWords (ws := wordsL (textL l)) HI.out HLr.out)
      have HSP := Lib.hid (split_any (textL l) wr (by omega) (HM.out _ HI.out.below))
      obtain ⟨ws, hws⟩ : ∃ ws, ws = wordsL (textL l) := ⟨_, rfl⟩
      have Hst : Hid (endedL l = true → stepR k S l = ((lineR k S ws).1 && (lineR k S ws).2.2.isEmpty, (lineR k S ws).2.1)) := by rw [hws]; exact stepR_is
      have Hst2 : Hid (endedL l = false → stepR k S l = (false, S)) := stepR_not
      rw [← hws] at HP HSP HN hwl
      clear hl hgl hmem hdrop hws Hgo
      have hsz1 : ∀ o : Obj, (wr.alloc o).heap.size = wr.heap.size + 1 := fun o => by simp
      obtain ⟨en, hen⟩ : ∃ en, en = endedL l := ⟨_, rfl⟩
      have HCS := fun W => Lib.hid (cutSuffix_any l W (by omega))
      rw [← hen] at HCS Hst Hst2
      clear hen
      cases en
      · go_wp2_with fail
        refine (HCS _).out.mono ?_
        rintro e w5 ⟨rfl, rfl⟩
        go_wp2_with fail
        refine HSP.out.mono ?_
        rintro e w6 ⟨rfl, rfl⟩
        go_wp2
        have HOut : Hid (out = (k, false, S)) := by have := Hgo2.out; rw [Hst2.out trivial] at this; exact this.symm
        go_ret2
        exact ⟨by rw [HOut.out]; rfl, by rw [HOut.out]; exact HP.out.rc.1⟩
      · have HPC : Hid (Calls Tryz.prog 160 #[.int .i64 k, .pointer (some ⟨wr.heap.size + 1, 0, none⟩), .pointer (some ⟨R, 0, none⟩)] ((wr.alloc (.cells (strs ws).toArray 9)).alloc (.cells #[.slice (some ⟨wr.heap.size, 0, none⟩) ws.length ws.length] 261)) fun e w' => e = .returned (.bool (lineR k S ws).1) ∧ PaI w0 lb AL R (wr.heap.size + 1) (lineR k S ws).2.1 (lineR k S ws).2.2 w') := parse1_any w0 lb AL R _ S ws k _ HP.out (by omega) (by have := HSl.out.1; omega) (by have := HSl.out.2; omega) HN.out
        have hlen := lineR_len k S ws
        obtain ⟨⟨ok, S2, rest⟩, hr⟩ : ∃ r, r = lineR k S ws := ⟨_, rfl⟩
        rw [← hr] at HPC Hst hlen
        clear hr
        dsimp only at hlen
        have HSl2 : Hid (S2.2.2.1.length ≤ k + 1 ∧ S2.2.2.2.length ≤ k + 1) := ⟨by have := HSl.out.1; have := hlen.1; omega, by have := HSl.out.2; have := hlen.2; omega⟩
        clear hlen
        go_wp2_with fail
        refine (HCS _).out.mono ?_
        rintro e w5 ⟨rfl, rfl⟩
        go_wp2_with fail
        refine HSP.out.mono ?_
        rintro e w6 ⟨rfl, rfl⟩
        go_wp2_with fail
        refine HPC.out.mono ?_
        rintro e w7 ⟨rfl, h7⟩
        have H7 := Lib.hid h7.rc.1
        have H8 := Lib.hid h7.rc.2.1
        obtain ⟨-, rb, off, c7, all7, h8, -⟩ := h7.words
        have c8 := h8.cell 0
        simp only [List.getElem?_cons_zero] at c8
        clear h7 h8
        cases ok
        · have HOut : Hid (out = (k, false, S2)) := by have := Hgo2.out; rw [Hst.out trivial] at this; exact this.symm
          go_wp2
          go_ret2
          exact ⟨by rw [HOut.out]; rfl, by rw [HOut.out]; exact H7.out⟩
        · cases rest with
          | nil =>
            have HOut : Hid (linesGo (k + 1) S2 (LL.drop (k + 1)) = out) := by have := Hgo2.out; rw [Hst.out trivial] at this; exact this
            go_wp2
            go_roundw
            case rel => exact ⟨k + 1, S2, by omega, by go_num, H7.out, H8.out, HSl2.out, HOut.out⟩
            case measure => simp [intOf]; omega
          | cons x rest =>
            have HOut : Hid (out = (k, false, S2)) := by have := Hgo2.out; rw [Hst.out trivial] at this; exact this.symm
            have hpos : 0 < (x :: rest).length := by simp
            obtain ⟨n7, hn7⟩ : ∃ n7, n7 = (x :: rest).length := ⟨_, rfl⟩
            rw [← hn7] at c8 hpos
            clear hn7
            have hpos2 : ¬ n7 = 0 := by omega
            have hpos3 : ¬ (n7 : Int) ≤ 0 := by omega
            have hpos4 : (0 : Int) < (n7 : Int) := by omega
            go_wp2
            go_ret2
            exact ⟨by rw [HOut.out]; rfl, by rw [HOut.out]; exact H7.out⟩
    · obtain rfl : k = LL.length := by omega
      have HOut : Hid (out = (LL.length, true, S)) := by have := Hgo.out; rw [List.drop_length] at this; exact this.symm
      go_wp2
      go_ret2
      exact ⟨by rw [HOut.out]; rfl, by rw [HOut.out]; exact HI.out⟩
end Go.Proofs.YtjgofnbfpoephaaGreatDoor
