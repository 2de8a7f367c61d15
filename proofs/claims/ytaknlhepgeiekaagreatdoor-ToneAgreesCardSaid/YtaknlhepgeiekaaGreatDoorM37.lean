import Derived.Test.YtaknlhepgeiekaaGreatDoorM26
import Derived.Laws.EntriesVeiled
import Derived.Lib.SplitLaws
namespace Go.Proofs.YtaknlhepgeiekaaGreatDoor
set_option linter.all false
open Go.RowKit Go.Fl
variable {lb : Nat} {L : List ByteArray}
set_option maxRecDepth 100000
set_option maxHeartbeats 1000000
def Mx (w : World) : Prop := ∃ m, w.cell? ⟨3, 0, none⟩ = some (.int .i64 m)
theorem Mx.old {w w' : World} (h : Mx w) (hb : Below w.heap.size w w') : Mx w' := by
 obtain ⟨m, hm⟩ := h
 exact ⟨m, (hb.cell (World.block_lt_of_cell? w _ hm)).trans hm⟩
def lf : ByteArray := ⟨#[10]⟩
def sp : ByteArray := ⟨#[32]⟩
def linesA (s : ByteArray) : List ByteArray := Lib.splitB lf 1 (Lib.countB s lf) s
def wordsL (s : ByteArray) : List ByteArray := Lib.splitB sp 0 (Lib.countB s sp) s
theorem linesA_length (s : ByteArray) : (linesA s).length = Lib.countB s lf + 1 := Lib.splitB_all lf (by decide) 1 _ s rfl
theorem wordsL_length (s : ByteArray) : (wordsL s).length = Lib.countB s sp + 1 := Lib.splitB_all sp (by decide) 0 _ s rfl
theorem linesA_le (s : ByteArray) : (linesA s).length ≤ s.size + 1 := by
 rw [linesA_length]; have := Lib.countB_le lf (by decide) _ s (Nat.le_refl _); omega
theorem wordsL_le (s : ByteArray) : (wordsL s).length ≤ s.size + 1 := by
 rw [wordsL_length]; have := Lib.countB_le sp (by decide) _ s (Nat.le_refl _); omega
theorem cellsOf_full (l : List ByteArray) : Lib.cellsOf l l.length = (strs l).toArray := by simp [Lib.cellsOf, strs]
theorem split_any (s : ByteArray) (w : World) (hs : s.size ≤ 100000) (hm : Mx w) : Calls Tryz.prog 174 #[.string s, .string ⟨#[32]⟩] w fun e w' => e = .returned (.slice (some ⟨w.heap.size, 0, none⟩) (wordsL s).length (wordsL s).length) ∧ w' = w.alloc (.cells (strs (wordsL s)).toArray 9) := by
 obtain ⟨m, hm⟩ := hm
 have := Tryz.strings_Split s sp m w (by omega) hm (by decide)
 rw [wordsL_length]
 exact this
theorem splitAfter_any (s : ByteArray) (w : World) (hs : s.size ≤ 100000) (hm : Mx w) : Calls Tryz.prog 188 #[.string s, .string ⟨#[10]⟩] w fun e w' => e = .returned (.slice (some ⟨w.heap.size, 0, none⟩) (linesA s).length (linesA s).length) ∧ w' = w.alloc (.cells (strs (linesA s)).toArray 9) := by
 obtain ⟨m, hm⟩ := hm
 have HG : Hid (Calls Tryz.prog 190 #[.string s, .string ⟨#[10]⟩, .int .i64 1, .int .i64 (-1)] w fun e w' => e = .returned (.slice (some ⟨w.heap.size, 0, none⟩) (linesA s).length (linesA s).length) ∧ w' = w.alloc (.cells (strs (linesA s)).toArray 9)) := by
  have hle := Lib.countB_le lf (by decide) _ s (Nat.le_refl _)
  have := Tryz.strings_genSplit s lf 1 (-1) (Lib.countB s lf + 1) m w (by omega) hm (by decide) (by decide) (by decide) (by decide) (by rw [if_pos (by decide)]; omega)
  rw [Nat.add_sub_cancel] at this
  rw [← linesA_length, show Lib.splitB lf 1 (Lib.countB s lf) s = linesA s from rfl, cellsOf_full] at this
  exact this
 clear hm
 go_enter Tryz.func188, Tryz.ntmps188
 go_wp2_with fail
 refine HG.out.mono ?_
 rintro e w1 ⟨rfl, rfl⟩
 go_wp2
 go_ret
 exact ⟨rfl, rfl⟩
def lastE (s : ByteArray) : Bool := ((linesA s).getLastD ⟨#[]⟩).toList.isEmpty
def linesL (s : ByteArray) : List ByteArray := bif lastE s then (linesA s).dropLast else linesA s
theorem linesOf_any (s : ByteArray) (w : World) (hs : s.size ≤ 100000) (hm : Mx w) : Calls Tryz.prog 172 #[.string s] w fun e w' => ∃ c, e = .returned (.slice (some ⟨w.heap.size, 0, none⟩) (linesL s).length c) ∧ (linesL s).length ≤ c ∧ Row w' w.heap.size 9 (strs (linesA s)) ∧ Below w.heap.size w w' := by
 have HS := Lib.hid (splitAfter_any s w hs hm)
 have hl := linesA_length s
 obtain ⟨L, hL⟩ : ∃ L, L = linesA s := ⟨_, rfl⟩
 have hle : L.length ≤ 100001 := by rw [hL]; have := linesA_le s; omega
 obtain ⟨n, hn⟩ : ∃ n, L.length = n + 1 := ⟨_, by rw [hL]; exact hl⟩
 have hne : L ≠ [] := by intro h; rw [h] at hn; cases hn
 obtain ⟨la, hla⟩ : ∃ la, la = L.getLast hne := ⟨_, rfl⟩
 have hgl : (linesA s).getLastD ⟨#[]⟩ = la := by rw [← hL, hla, List.getLastD_eq_getLast?, List.getLast?_eq_some_getLast hne]; rfl
 have hla2 : L[n]? = some la := by rw [hla, List.getLast_eq_getElem, ← List.getElem?_eq_getElem]; congr 1; omega
 have HLE : Hid (lastE s = la.toList.isEmpty) := by unfold Hid lastE; rw [hgl]
 have R0 := Row.new w 9 (strs L)
 have HR0 := Lib.hid R0
 have cl : (w.alloc (.cells (strs L).toArray 9)).cell? ⟨w.heap.size, n, none⟩ = some (.string la) := by rw [R0.cell]; simp [strs, hla2]
 rw [← hL, hn] at HS
 have HLL : Hid (linesL s = bif la.toList.isEmpty then L.dropLast else L) := by unfold Hid linesL; rw [HLE.out, hL]
 have hdl : L.dropLast.length = n := by simp [hn]
 have hdt : L.dropLast = L.take n := by rw [List.dropLast_eq_take, hn]; rfl
 have HLe := Lib.hid hL
 clear hl hla hgl hla2 hm R0 HLE hL
 have hsl := fun W => slice_to (P := Tryz.prog) 51 (by kernel_rfl) 1 (fun W => by kernel_rfl) (some ⟨w.heap.size, 0, none⟩) (n + 1) (n + 1) (n : Int) (by omega) (by omega) W
 cases he : la.toList.isEmpty
 · go_enter Tryz.func172, Tryz.ntmps172
   go_wp2_with fail
   refine HS.out.mono ?_
   rintro e w1 ⟨rfl, rfl⟩
   go_wp2
   go_ret
   rw [he] at HLL
   exact ⟨_, by rw [HLL.out, cond_false, hn]; rfl, by rw [HLL.out, cond_false, hn]; exact Nat.le_refl _, by rw [← HLe.out]; exact HR0.out, (Below.refl _ _).alloc (Nat.le_refl _) _⟩
 · go_enter Tryz.func172, Tryz.ntmps172
   go_wp2_with fail
   refine HS.out.mono ?_
   rintro e w1 ⟨rfl, rfl⟩
   go_wp2
   go_ret
   rw [he] at HLL
   exact ⟨_, by rw [HLL.out, cond_true, hdl]; rfl, by rw [HLL.out, cond_true, hdl]; omega, by rw [← HLe.out]; exact HR0.out, (Below.refl _ _).alloc (Nat.le_refl _) _⟩
theorem linesL_get {s : ByteArray} {j : Nat} {x : ByteArray} (h : (linesL s)[j]? = some x) : (linesA s)[j]? = some x := by
 unfold linesL at h
 cases hl : lastE s
 · rw [hl] at h; exact h
 · rw [hl, cond_true, List.getElem?_dropLast] at h
   split at h
   · exact h
   · cases h
theorem linesL_le (s : ByteArray) : (linesL s).length ≤ s.size + 1 := by
 have := linesA_le s
 unfold linesL
 cases lastE s <;> simp <;> omega
theorem splitB_small (sep : ByteArray) (save : Nat) : ∀ (k : Nat) (s : ByteArray), ∀ x ∈ Lib.splitB sep save k s, x.size ≤ s.size
 | 0, s, x, hx => by
   rw [Lib.splitB_zero] at hx
   simp at hx; rw [hx]; exact Nat.le_refl _
 | k + 1, s, x, hx => by
   unfold Lib.splitB at hx
   split at hx
   · simp at hx; rw [hx]; exact Nat.le_refl _
   · rcases List.mem_cons.1 hx with rfl | hx
     · rw [ByteArray.size_extract]; omega
     · have := splitB_small sep save k _ x hx
       rw [ByteArray.size_extract] at this; omega
theorem linesL_small {s : ByteArray} {x : ByteArray} (h : x ∈ linesL s) : x.size ≤ s.size := by
 obtain ⟨j, hj, rfl⟩ := List.getElem_of_mem h
 have := linesL_get (List.getElem?_eq_getElem hj)
 exact splitB_small lf 1 _ s _ (List.mem_of_getElem? this)
def textL (l : ByteArray) : ByteArray := ⟨(Lib.trimSuffix l.data.toList [10]).toArray⟩
def endedL (l : ByteArray) : Bool := Lib.hasSuffix l.data.toList [10]
theorem textL_small (l : ByteArray) : (textL l).size ≤ l.size := by
 unfold textL Lib.trimSuffix
 have hx : l.data.toList.length = l.size := Array.length_toList
 split
 · show (List.toArray _).size ≤ _
   rw [List.size_toArray, List.length_take]; omega
 · exact Nat.le_of_eq hx
theorem cutSuffix_any (l : ByteArray) (w : World) (hs : l.size ≤ 100000) : Calls Tryz.prog 173 #[.string l, .string ⟨#[10]⟩] w fun e w' => e = .returned (.tuple #[.string (textL l), .bool (endedL l)]) ∧ w' = w := Tryz.strings_CutSuffix l lf w (by omega)
def okG (b : Bool) : Int := bif b then 0 else 25
def stepG {σ : Type} (st : Nat → σ → List ByteArray → Bool × σ × List ByteArray) (k : Nat) (S : σ) (l : ByteArray) : Bool × σ := if endedL l then ((st k S (wordsL (textL l))).1 && (st k S (wordsL (textL l))).2.2.isEmpty, (st k S (wordsL (textL l))).2.1) else (false, S)
def linesG {σ : Type} (st : Nat → σ → List ByteArray → Bool × σ × List ByteArray) : Nat → σ → List ByteArray → Nat × Bool × σ
 | i, S, [] => (i, true, S)
 | i, S, l :: r => if (stepG st i S l).1 then linesG st (i + 1) (stepG st i S l).2 r else (i, false, (stepG st i S l).2)
theorem linesG_cons {σ : Type} {st : Nat → σ → List ByteArray → Bool × σ × List ByteArray} {i : Nat} {S : σ} {l : ByteArray} {r : List ByteArray} : linesG st i S (l :: r) = if (stepG st i S l).1 then linesG st (i + 1) (stepG st i S l).2 r else (i, false, (stepG st i S l).2) := rfl
theorem stepG_not {σ : Type} {st : Nat → σ → List ByteArray → Bool × σ × List ByteArray} {i : Nat} {S : σ} {l : ByteArray} (h : endedL l = false) : stepG st i S l = (false, S) := by unfold stepG; rw [h]; rfl
theorem stepG_is {σ : Type} {st : Nat → σ → List ByteArray → Bool × σ × List ByteArray} {i : Nat} {S : σ} {l : ByteArray} (h : endedL l = true) : stepG st i S l = ((st i S (wordsL (textL l))).1 && (st i S (wordsL (textL l))).2.2.isEmpty, (st i S (wordsL (textL l))).2.1) := by unfold stepG; rw [h]; rfl
theorem below_words (wr : World) (ws : List ByteArray) : Below wr.heap.size wr ((wr.alloc (.cells (strs ws).toArray 9)).alloc (.cells #[.slice (some ⟨wr.heap.size, 0, none⟩) ws.length ws.length] 225)) := ((Below.refl _ _).alloc (Nat.le_refl _) _).alloc (by simp) _
theorem newWordsG {wr : World} {lb : Nat} {all ws : List ByteArray} (hl : Row wr lb 9 (strs all)) :
 WdI lb all (wr.heap.size + 1) ws ((wr.alloc (.cells (strs ws).toArray 9)).alloc (.cells #[.slice (some ⟨wr.heap.size, 0, none⟩) ws.length ws.length] 225)) := by
 have h2 := Row.new (wr.alloc (.cells (strs ws).toArray 9)) 225 [.slice (some ⟨wr.heap.size, 0, none⟩) ws.length ws.length]
 rw [World.size_alloc] at h2
 exact ⟨hl.old (below_words wr ws), wr.heap.size, 0, ws.length, ws, h2, (Row.new wr 9 (strs ws)).alloc _, fun j x hx => by rw [Nat.zero_add]; exact hx, Nat.le_refl _⟩
set_option maxRecDepth 100000 in
set_option maxHeartbeats 4000000 in
theorem readLinesG_any {σ : Type} (st : Nat → σ → List ByteArray → Bool × σ × List ByteArray) (Inv : Nat → σ → World → Prop) (F : Nat) (bs : Array Value) (w0 : World) (hIb : ∀ k S W, Inv k S W → Below w0.heap.size w0 W) (hIo : ∀ k S W W', Inv k S W → Below W.heap.size W W' → Inv k S W')
 (hF : ∀ k S ws W g lb AL, Inv k S W → WdI lb AL g ws W → ws.length ≤ 10000 → k ≤ 5000 → w0.heap.size ≤ g → Calls Tryz.prog F (#[.int .i64 (k : Int), .pointer (some ⟨g, 0, none⟩)] ++ bs) W fun e w' => e = .returned (.bool (st k S ws).1) ∧ Inv (k + 1) (st k S ws).2.1 w' ∧ WdI lb AL g (st k S ws).2.2 w') (eg : ∀ args w, (callFunc F args).run Tryz.prog w = .ok (.enter F args) w)
 (s : ByteArray) (S0 : σ) (w : World) (hR : Inv 0 S0 w) (hM : Mx w0) (hs : s.size ≤ 4096) :
 Calls Tryz.prog 147 #[.string s, .func (.func F) #[] bs] w fun e w' => e = .returned (.tuple #[.int .i64 (linesG st 0 S0 (linesL s)).1, .int .i64 (okG (linesG st 0 S0 (linesL s)).2.1)]) ∧ ∃ k, Inv k (linesG st 0 S0 (linesL s)).2.2 w' := by
 have HFF := Lib.hid hF
 have HIo := Lib.hid hIo
 have HIb := Lib.hid hIb
 clear hF
 have HM : Hid (∀ W, Below w0.heap.size w0 W → Mx W) := fun W h => hM.old h
 have HR := Lib.hid hR
 have HLO := Lib.hid (linesOf_any s w (by omega) (hM.old (hIb _ _ _ hR)))
 have hll := linesL_le s
 obtain ⟨out, hout⟩ : ∃ out, out = linesG st 0 S0 (linesL s) := ⟨_, rfl⟩
 rw [← hout]
 have HO := Lib.hid hout
 obtain ⟨LL, hLL⟩ : ∃ LL, LL = linesL s := ⟨_, rfl⟩
 obtain ⟨AL, hAL⟩ : ∃ AL, AL = linesA s := ⟨_, rfl⟩
 have HGet : Hid (∀ (j : Nat) x, LL[j]? = some x → AL[j]? = some x) := by rw [hLL, hAL]; exact fun j x h => linesL_get h
 have HSm : Hid (∀ x ∈ LL, x.size ≤ 4096) := by rw [hLL]; exact fun x h => Nat.le_trans (linesL_small h) hs
 rw [← hLL] at HO HLO hll
 rw [← hAL] at HLO
 clear hR hM hout hLL hAL
 go_enter Tryz.func147, Tryz.ntmps147
 go_wp2_with fail
 refine HLO.out.mono ?_
 rintro e w1 ⟨c, rfl, hc, hrow, hb1⟩
 obtain ⟨lb, hlb⟩ : ∃ lb, lb = w.heap.size := ⟨_, rfl⟩
 rw [← hlb] at hrow ⊢
 have HR1 := Lib.hid (hIo _ _ _ _ HR.out hb1)
 have HL1 := Lib.hid hrow
 clear hlb hb1 hrow HR HLO hIb hIo
 go_wp2
 go_loopw [19] (fun u wr => ∃ (k : Nat) (S : σ), k ≤ LL.length ∧ u = .int .i64 k ∧ Hid (Inv k S wr) ∧ Hid (Row wr lb 9 (strs AL)) ∧ Hid (linesG st k S (LL.drop k) = out)) (fun u _ => LL.length - (intOf u).toNat)
 case atStart => exact ⟨0, S0, Nat.zero_le _, rfl, HR1.out, HL1.out, HO.out.symm⟩
 case round =>
  clear HR1 HL1
  obtain ⟨k, S, hk, rfl, HI, HLr, Hgo⟩ := hrel
  by_cases hlt : k < LL.length
  · obtain ⟨l, hl⟩ : ∃ l, l = LL[k] := ⟨_, rfl⟩
    have hgl : LL[k]? = some l := by rw [List.getElem?_eq_getElem hlt, hl]
    have hmem : l ∈ LL := List.mem_of_getElem? hgl
    have hdrop : LL.drop k = l :: LL.drop (k + 1) := by rw [List.drop_eq_getElem_cons hlt, hl]
    have hsm := HSm.out l hmem
    have q0 : wr.cell? ⟨lb, k, none⟩ = some (.string l) := by rw [HLr.out.cell]; simp only [strs, List.getElem?_map]; rw [HGet.out k l hgl]; rfl
    have Hgo2 : Hid ((if (stepG st k S l).1 then linesG st (k + 1) (stepG st k S l).2 (LL.drop (k + 1)) else (k, false, (stepG st k S l).2)) = out) := by
     have := Hgo.out; rw [hdrop, linesG_cons] at this; exact this
    have hts := textL_small l
    have hwl := wordsL_le (textL l)
    have HPW : Hid _ := Lib.hid (newWordsG (ws := wordsL (textL l)) HLr.out)
    have HPI : Hid _ := Lib.hid (HIo.out _ _ _ _ HI.out (below_words wr (wordsL (textL l))))
    have HQ := Lib.hid (HFF.out k S (wordsL (textL l)) _ _ _ _ HPI.out HPW.out (by omega) (by omega) (by have := (HIb.out _ _ _ HI.out).size; omega))
    have HSP := Lib.hid (split_any (textL l) wr (by omega) (HM.out _ (HIb.out _ _ _ HI.out)))
    obtain ⟨ws, hws⟩ : ∃ ws, ws = wordsL (textL l) := ⟨_, rfl⟩
    have Hst : Hid (endedL l = true → stepG st k S l = ((st k S ws).1 && (st k S ws).2.2.isEmpty, (st k S ws).2.1)) := by rw [hws]; exact stepG_is
    have Hst2 : Hid (endedL l = false → stepG st k S l = (false, S)) := stepG_not
    rw [← hws] at HPW HPI HQ HSP hwl
    clear hl hgl hmem hdrop hws Hgo
    have hsz1 : ∀ o : Obj, (wr.alloc o).heap.size = wr.heap.size + 1 := fun o => by simp
    obtain ⟨en, hen⟩ : ∃ en, en = endedL l := ⟨_, rfl⟩
    have HCS := fun W => Lib.hid (cutSuffix_any l W (by omega))
    rw [← hen] at HCS Hst Hst2
    clear hen
    cases en
    · go_wp2_with fail
      refine (HCS _).out.mono ?_
      rintro e w5 ⟨rfl, rfl⟩
      go_wp2_with fail
      refine HSP.out.mono ?_
      rintro e w6 ⟨rfl, rfl⟩
      go_wp2
      have HOut : Hid (out = (k, false, S)) := by have := Hgo2.out; rw [Hst2.out trivial] at this; exact this.symm
      go_ret2
      exact ⟨by rw [HOut.out]; rfl, _, by rw [HOut.out]; exact HPI.out⟩
    · have HPC := HQ
      clear HQ
      obtain ⟨⟨ok, S2, rest⟩, hr⟩ : ∃ r, r = st k S ws := ⟨_, rfl⟩
      rw [← hr] at HPC Hst
      clear hr
      go_wp2_with fail
      refine (HCS _).out.mono ?_
      rintro e w5 ⟨rfl, rfl⟩
      go_wp2_with fail
      refine HSP.out.mono ?_
      rintro e w6 ⟨rfl, rfl⟩
      go_wp2_with fail
      refine HPC.out.mono ?_
      rintro e w7 ⟨rfl, h7i, h7w⟩
      have H7 := Lib.hid h7i
      have H8 := Lib.hid h7w.1
      obtain ⟨-, rb, off, c7, all7, h8, -⟩ := h7w
      have c8 := h8.cell 0
      simp only [List.getElem?_cons_zero] at c8
      clear h7i h8
      cases ok
      · have HOut : Hid (out = (k, false, S2)) := by have := Hgo2.out; rw [Hst.out trivial] at this; exact this.symm
        go_wp2
        go_ret2
        exact ⟨by rw [HOut.out]; rfl, _, by rw [HOut.out]; exact H7.out⟩
      · cases rest with
        | nil =>
          have HOut : Hid (linesG st (k + 1) S2 (LL.drop (k + 1)) = out) := by have := Hgo2.out; rw [Hst.out trivial] at this; exact this
          go_wp2
          go_roundw
          case rel => exact ⟨k + 1, S2, by omega, by go_num, H7.out, H8.out, HOut.out⟩
          case measure => simp [intOf]; omega
        | cons x rest =>
          have HOut : Hid (out = (k, false, S2)) := by have := Hgo2.out; rw [Hst.out trivial] at this; exact this.symm
          have hpos : 0 < (x :: rest).length := by simp
          obtain ⟨n7, hn7⟩ : ∃ n7, n7 = (x :: rest).length := ⟨_, rfl⟩
          rw [← hn7] at c8 hpos
          clear hn7
          have hpos2 : ¬ n7 = 0 := by omega
          have hpos3 : ¬ (n7 : Int) ≤ 0 := by omega
          have hpos4 : (0 : Int) < (n7 : Int) := by omega
          go_wp2
          go_ret2
          exact ⟨by rw [HOut.out]; rfl, _, by rw [HOut.out]; exact H7.out⟩
  · obtain rfl : k = LL.length := by omega
    have HOut : Hid (out = (LL.length, true, S)) := by have := Hgo.out; rw [List.drop_length] at this; exact this.symm
    go_wp2
    go_ret2
    exact ⟨by rw [HOut.out]; rfl, _, by rw [HOut.out]; exact HI.out⟩
set_option maxRecDepth 100000
set_option maxHeartbeats 2000000
def valsI (n : Nat) (ws : List ByteArray) : List Int := (List.range n).map fun i => intV (headW (ws.drop i)).data.toList
def oksI (n : Nat) (ws : List ByteArray) : Bool := (List.range n).all fun i => intOk (headW (ws.drop i)).data.toList
theorem valsI_len (n : Nat) (ws : List ByteArray) : (valsI n ws).length = n := by simp [valsI]
theorem valsI_get (n : Nat) (ws : List ByteArray) (k : Nat) (hk : k < (valsI n ws).length) : (valsI n ws)[k] = intV (headW (ws.drop k)).data.toList := by simp [valsI]
theorem oksI_succ (n : Nat) (ws : List ByteArray) : oksI (n + 1) ws = (oksI n ws && intOk (headW (ws.drop n)).data.toList) := by simp [oksI, List.range_succ, List.all_append]
theorem grT {a b c : World} {row row' : Option Nat} (h : a.grownBy b row) (k : b.grownBy c row') (hr : ∀ j, row' = some j → a.heap.size ≤ j ∨ row = some j) : a.grownBy c row :=
 ⟨k.os.trans h.os, k.tape.trans h.tape, k.output.trans h.output, Nat.le_trans h.size k.size, fun i hi hn => (k.block i (Nat.lt_of_lt_of_le hi h.size) (fun e => by
   rcases hr i e.symm with h1 | h1
   · omega
   · exact hn h1.symm)).trans (h.block i hi hn)⟩
theorem belowGr2 {W W' : World} (hb : Below W.heap.size W W') : W.grownBy W' none := ⟨hb.os, hb.tape, hb.output, hb.size, fun k hk _ => hb.block k hk⟩
theorem setGr (W : World) (q k : Nat) (v : Value) : W.grownBy (W.setCell ⟨q, k, none⟩ v) (some q) := ⟨rfl, rfl, rfl, by simp, fun j _ hj => heap_setCell_other _ _ _ _ (fun e => hj (by rw [e]))⟩
theorem WdI.lt {lb g : Nat} {AL ws : List ByteArray} {W : World} (h : WdI lb AL g ws W) : g < W.heap.size := by
 obtain ⟨-, rb, off, c, all, h1, -⟩ := h; exact h1.lt
theorem takenI_any (lb g n : Nat) (AL ws : List ByteArray) (w : World) (h : WdI lb AL g ws w) (hm : ws.length ≤ 1000000) (hn : n ≤ 1000) :
 Calls Tryz.prog 149 #[.int .i64 (n : Int), .func (.func 116) #[.pointer (some ⟨g, 0, none⟩)] #[], .func (.func 150) #[] #[]] w fun e w' => e = .returned (.tuple #[.slice (some ⟨w.heap.size, 0, none⟩) n n, .bool (oksI n ws)]) ∧ Row w' w.heap.size 3 (ints (valsI n ws)) ∧ WdI lb AL g (ws.drop n) w' ∧ w.grownBy w' (some g) := by
 have H0 := Lib.hid h
 have hlt0 := h.lt
 clear h
 have hmk := fun W : World => make1 (P := Tryz.prog) 74 3 (.int .i64 0) 8 Tryz.underlying74 info3 rfl n (by omega) (by omega) W
 go_enter Tryz.func149, Tryz.ntmps149
 go_wp2
 go_loopw [9, 16] (fun o i wr => ∃ k : Nat, k ≤ n ∧ i = .int .i64 k ∧ o = .bool (oksI k ws) ∧ Hid (Row wr w.heap.size 3 (((valsI n ws).take k).map (Value.int .i64) ++ List.replicate (n - k) (.int .i64 0))) ∧ Hid (WdI lb AL g (ws.drop k) wr) ∧ Hid (w.grownBy wr (some g))) (fun _ i _ => n - (intOf i).toNat)
 case atStart =>
  refine ⟨0, Nat.zero_le _, rfl, rfl, ?_, H0.out.old ((Below.refl _ _).alloc (Nat.le_refl _) _), World.grownBy_alloc _ _ _⟩
  have := Row.new w 3 (List.replicate n (.int .i64 0))
  unfold Hid; simpa using this
 case round =>
  obtain ⟨k, hk, rfl, rfl, hrow, hwd, hgr⟩ := hrel
  by_cases hlt : k < n
  · have hset := Lib.hid (part_setG (Value.int .i64) (valsI n ws) (.int .i64 0) n k (by rw [valsI_len]; exact hlt) (valsI_len n ws).symm)
    have hvk := Lib.hid (valsI_get n ws k (by rw [valsI_len]; exact hlt))
    have hok := Lib.hid (oksI_succ k ws)
    have hdt : Hid ((ws.drop k).tail = ws.drop (k + 1)) := by unfold Hid; rw [List.tail_drop]
    have hml : (ws.drop k).length ≤ 1000000 := by rw [List.length_drop]; omega
    obtain ⟨b0, hb0⟩ : ∃ b0, b0 = oksI k ws := ⟨_, rfl⟩
    obtain ⟨hd, hhd⟩ : ∃ hd, hd = headW (ws.drop k) := ⟨_, rfl⟩
    have HNX := Lib.hid (next_any g (ws.drop k) wr hwd.out hml)
    rw [← hhd] at HNX hvk hok
    rw [← hb0] at hok ⊢
    clear hb0 hhd
    go_wp2_with fail
    refine HNX.out.mono ?_
    rintro e w1 ⟨rfl, hw1, hg1⟩
    go_wp2_with fail
    refine (integer_any hd w1).mono ?_
    rintro e w2 ⟨rfl, hb2⟩
    have hgne : g ≠ w.heap.size := by omega
    have hrow2 := (hrow.out.grown hg1 (fun e => hgne (Option.some.inj e).symm)).old hb2
    have HW2 : Hid (WdI lb AL g (ws.drop (k + 1)) w2) := by rw [← hdt.out]; exact hw1.old hb2
    have HG2 : Hid (w.grownBy w2 (some g)) := grT (grT hgr.out hg1 (fun j e => .inr e)) (belowGr2 hb2) (fun j e => by cases e)
    have hc2 : w2.cell? ⟨w.heap.size, k, none⟩ = some (.int .i64 0) := by
     rw [hrow2.cell]
     exact mid_get _ _ _ _ (by simp [valsI_len]; omega) hlt
    have hf2 := hrow2.free k
    have HR2 := Lib.hid hrow2
    obtain ⟨v, hv⟩ : ∃ v, v = intV hd.data.toList := ⟨_, rfl⟩
    obtain ⟨ov, hov⟩ : ∃ ov, ov = intOk hd.data.toList := ⟨_, rfl⟩
    unfold intE
    rw [← hv] at hvk ⊢
    rw [← hov] at hok ⊢
    clear hrow hwd hgr hw1 hg1 hb2 hrow2 hdt HNX hv hov
    cases b0
    all_goals
     go_wp2
     go_roundw
     case rel => exact ⟨k + 1, by omega, by go_num, by rw [hok.out]; rfl, by rw [← hset.out, hvk.out]; exact HR2.out.set k _, WdI.grown HW2.out (setGr _ _ _ _) (fun j t us hj ht e => by have e2 := Option.some.inj e; subst e2; rcases ht with rfl | rfl <;> exact absurd rfl (hj.ne HR2.out (by decide))), grT HG2.out (setGr _ _ _ _) (fun j e => by cases e; exact .inl (Nat.le_refl _))⟩
     case measure => simp [intOf]; omega
  · obtain rfl : k = n := by omega
    go_wp2
    go_ret2
    refine ⟨rfl, ?_, hwd.out, hgr.out⟩
    have := hrow.out
    rw [Nat.sub_self, List.replicate_zero, List.append_nil, List.take_of_length_le (by rw [valsI_len]; exact Nat.le_refl _)] at this
    exact this
theorem integersW_any (lb g n : Nat) (AL ws : List ByteArray) (w : World) (h : WdI lb AL g ws w) (hm : ws.length ≤ 1000000) (hn : n ≤ 1000) :
 Calls Tryz.prog 117 #[.int .i64 (n : Int), .func (.func 116) #[.pointer (some ⟨g, 0, none⟩)] #[]] w fun e w' => e = .returned (.tuple #[.slice (some ⟨w.heap.size, 0, none⟩) n n, .bool (oksI n ws)]) ∧ Row w' w.heap.size 3 (ints (valsI n ws)) ∧ WdI lb AL g (ws.drop n) w' ∧ w.grownBy w' (some g) := by
 go_enter Tryz.func117, Tryz.ntmps117
 go_wp2_with (refine (takenI_any lb g n AL ws w h hm hn).mono ?_; rintro e w1 ⟨rfl, hr1, hw1, hg1⟩)
 go_ret2
 exact ⟨rfl, hr1, hw1, hg1⟩
end Go.Proofs.YtaknlhepgeiekaaGreatDoor
