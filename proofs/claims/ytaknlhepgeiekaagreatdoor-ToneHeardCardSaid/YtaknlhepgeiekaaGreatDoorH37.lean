import Derived.Test.YtaknlhepgeiekaaGreatDoorH26
import Derived.Laws.EntriesVeiled
import Derived.Lib.SplitLaws
import Derived.Lib.IndexLaws
namespace Go.Proofs.YtaknlhepgeiekaaGreatDoor
set_option linter.all false
open Go.RowKit Go.Fl
variable {lb : Nat} {L : List ByteArray}
set_option maxRecDepth 100000
set_option maxHeartbeats 1000000
def Mx (w : World) : Prop := ∃ m, w.cell? ⟨3, 0, none⟩ = some (.int .i64 m)
theorem Mx.old {w w' : World} (h : Mx w) (hb : Below w.heap.size w w') : Mx w' := by
 obtain ⟨m, hm⟩ := h
 exact ⟨m, (hb.cell (World.block_lt_of_cell? w _ hm)).trans hm⟩
def lf : ByteArray := ⟨#[10]⟩
def sp : ByteArray := ⟨#[32]⟩
def linesA (s : ByteArray) : List ByteArray := Lib.splitB lf 1 (Lib.countB s lf) s
def wordsL (s : ByteArray) : List ByteArray := Lib.splitB sp 0 (Lib.countB s sp) s
theorem linesA_length (s : ByteArray) : (linesA s).length = Lib.countB s lf + 1 := Lib.splitB_all lf (by decide) 1 _ s rfl
theorem wordsL_length (s : ByteArray) : (wordsL s).length = Lib.countB s sp + 1 := Lib.splitB_all sp (by decide) 0 _ s rfl
theorem linesA_le (s : ByteArray) : (linesA s).length ≤ s.size + 1 := by
 rw [linesA_length]; have := Lib.countB_le lf (by decide) _ s (Nat.le_refl _); omega
theorem wordsL_le (s : ByteArray) : (wordsL s).length ≤ s.size + 1 := by
 rw [wordsL_length]; have := Lib.countB_le sp (by decide) _ s (Nat.le_refl _); omega
theorem cellsOf_full (l : List ByteArray) : Lib.cellsOf l l.length = (strs l).toArray := by simp [Lib.cellsOf, strs]
theorem split_any (s : ByteArray) (w : World) (hs : s.size ≤ 100000) (hm : Mx w) : Calls Tryz.prog 174 #[.string s, .string ⟨#[32]⟩] w fun e w' => e = .returned (.slice (some ⟨w.heap.size, 0, none⟩) (wordsL s).length (wordsL s).length) ∧ w' = w.alloc (.cells (strs (wordsL s)).toArray 9) := by
 obtain ⟨m, hm⟩ := hm
 have := Tryz.strings_Split s sp m w (by omega) hm (by decide)
 rw [wordsL_length]
 exact this
theorem splitAfter_any (s : ByteArray) (w : World) (hs : s.size ≤ 100000) (hm : Mx w) : Calls Tryz.prog 188 #[.string s, .string ⟨#[10]⟩] w fun e w' => e = .returned (.slice (some ⟨w.heap.size, 0, none⟩) (linesA s).length (linesA s).length) ∧ w' = w.alloc (.cells (strs (linesA s)).toArray 9) := by
 obtain ⟨m, hm⟩ := hm
 have HG : Hid (Calls Tryz.prog 190 #[.string s, .string ⟨#[10]⟩, .int .i64 1, .int .i64 (-1)] w fun e w' => e = .returned (.slice (some ⟨w.heap.size, 0, none⟩) (linesA s).length (linesA s).length) ∧ w' = w.alloc (.cells (strs (linesA s)).toArray 9)) := by
  have hle := Lib.countB_le lf (by decide) _ s (Nat.le_refl _)
  have := Tryz.strings_genSplit s lf 1 (-1) (Lib.countB s lf + 1) m w (by omega) hm (by decide) (by decide) (by decide) (by decide) (by rw [if_pos (by decide)]; omega)
  rw [Nat.add_sub_cancel] at this
  rw [← linesA_length, show Lib.splitB lf 1 (Lib.countB s lf) s = linesA s from rfl, cellsOf_full] at this
  exact this
 clear hm
 go_enter Tryz.func188, Tryz.ntmps188
 go_wp2_with fail
 refine HG.out.mono ?_
 rintro e w1 ⟨rfl, rfl⟩
 go_wp2
 go_ret
 exact ⟨rfl, rfl⟩
def lastE (s : ByteArray) : Bool := ((linesA s).getLastD ⟨#[]⟩).toList.isEmpty
def linesL (s : ByteArray) : List ByteArray := bif lastE s then (linesA s).dropLast else linesA s
theorem linesOf_any (s : ByteArray) (w : World) (hs : s.size ≤ 100000) (hm : Mx w) : Calls Tryz.prog 172 #[.string s] w fun e w' => ∃ c, e = .returned (.slice (some ⟨w.heap.size, 0, none⟩) (linesL s).length c) ∧ (linesL s).length ≤ c ∧ Row w' w.heap.size 9 (strs (linesA s)) ∧ Below w.heap.size w w' := by
 have HS := Lib.hid (splitAfter_any s w hs hm)
 have hl := linesA_length s
 obtain ⟨L, hL⟩ : ∃ L, L = linesA s := ⟨_, rfl⟩
 have hle : L.length ≤ 100001 := by rw [hL]; have := linesA_le s; omega
 obtain ⟨n, hn⟩ : ∃ n, L.length = n + 1 := ⟨_, by rw [hL]; exact hl⟩
 have hne : L ≠ [] := by intro h; rw [h] at hn; cases hn
 obtain ⟨la, hla⟩ : ∃ la, la = L.getLast hne := ⟨_, rfl⟩
 have hgl : (linesA s).getLastD ⟨#[]⟩ = la := by rw [← hL, hla, List.getLastD_eq_getLast?, List.getLast?_eq_some_getLast hne]; rfl
 have hla2 : L[n]? = some la := by rw [hla, List.getLast_eq_getElem, ← List.getElem?_eq_getElem]; congr 1; omega
 have HLE : Hid (lastE s = la.toList.isEmpty) := by unfold Hid lastE; rw [hgl]
 have R0 := Row.new w 9 (strs L)
 have HR0 := Lib.hid R0
 have cl : (w.alloc (.cells (strs L).toArray 9)).cell? ⟨w.heap.size, n, none⟩ = some (.string la) := by rw [R0.cell]; simp [strs, hla2]
 rw [← hL, hn] at HS
 have HLL : Hid (linesL s = bif la.toList.isEmpty then L.dropLast else L) := by unfold Hid linesL; rw [HLE.out, hL]
 have hdl : L.dropLast.length = n := by simp [hn]
 have hdt : L.dropLast = L.take n := by rw [List.dropLast_eq_take, hn]; rfl
 have HLe := Lib.hid hL
 clear hl hla hgl hla2 hm R0 HLE hL
 have hsl := fun W => slice_to (P := Tryz.prog) 51 (by kernel_rfl) 1 (fun W => by kernel_rfl) (some ⟨w.heap.size, 0, none⟩) (n + 1) (n + 1) (n : Int) (by omega) (by omega) W
 cases he : la.toList.isEmpty
 · go_enter Tryz.func172, Tryz.ntmps172
   go_wp2_with fail
   refine HS.out.mono ?_
   rintro e w1 ⟨rfl, rfl⟩
   go_wp2
   go_ret
   rw [he] at HLL
   exact ⟨_, by rw [HLL.out, cond_false, hn]; rfl, by rw [HLL.out, cond_false, hn]; exact Nat.le_refl _, by rw [← HLe.out]; exact HR0.out, (Below.refl _ _).alloc (Nat.le_refl _) _⟩
 · go_enter Tryz.func172, Tryz.ntmps172
   go_wp2_with fail
   refine HS.out.mono ?_
   rintro e w1 ⟨rfl, rfl⟩
   go_wp2
   go_ret
   rw [he] at HLL
   exact ⟨_, by rw [HLL.out, cond_true, hdl]; rfl, by rw [HLL.out, cond_true, hdl]; omega, by rw [← HLe.out]; exact HR0.out, (Below.refl _ _).alloc (Nat.le_refl _) _⟩
theorem linesL_get {s : ByteArray} {j : Nat} {x : ByteArray} (h : (linesL s)[j]? = some x) : (linesA s)[j]? = some x := by
 unfold linesL at h
 cases hl : lastE s
 · rw [hl] at h; exact h
 · rw [hl, cond_true, List.getElem?_dropLast] at h
   split at h
   · exact h
   · cases h
theorem linesL_le (s : ByteArray) : (linesL s).length ≤ s.size + 1 := by
 have := linesA_le s
 unfold linesL
 cases lastE s <;> simp <;> omega
theorem splitB_small (sep : ByteArray) (save : Nat) : ∀ (k : Nat) (s : ByteArray), ∀ x ∈ Lib.splitB sep save k s, x.size ≤ s.size
 | 0, s, x, hx => by
   rw [Lib.splitB_zero] at hx
   simp at hx; rw [hx]; exact Nat.le_refl _
 | k + 1, s, x, hx => by
   unfold Lib.splitB at hx
   split at hx
   · simp at hx; rw [hx]; exact Nat.le_refl _
   · rcases List.mem_cons.1 hx with rfl | hx
     · rw [ByteArray.size_extract]; omega
     · have := splitB_small sep save k _ x hx
       rw [ByteArray.size_extract] at this; omega
theorem linesL_small {s : ByteArray} {x : ByteArray} (h : x ∈ linesL s) : x.size ≤ s.size := by
 obtain ⟨j, hj, rfl⟩ := List.getElem_of_mem h
 have := linesL_get (List.getElem?_eq_getElem hj)
 exact splitB_small lf 1 _ s _ (List.mem_of_getElem? this)
def textL (l : ByteArray) : ByteArray := ⟨(Lib.trimSuffix l.data.toList [10]).toArray⟩
def endedL (l : ByteArray) : Bool := Lib.hasSuffix l.data.toList [10]
theorem textL_small (l : ByteArray) : (textL l).size ≤ l.size := by
 unfold textL Lib.trimSuffix
 have hx : l.data.toList.length = l.size := Array.length_toList
 split
 · show (List.toArray _).size ≤ _
   rw [List.size_toArray, List.length_take]; omega
 · exact Nat.le_of_eq hx
theorem cutSuffix_any (l : ByteArray) (w : World) (hs : l.size ≤ 100000) : Calls Tryz.prog 173 #[.string l, .string ⟨#[10]⟩] w fun e w' => e = .returned (.tuple #[.string (textL l), .bool (endedL l)]) ∧ w' = w := Tryz.strings_CutSuffix l lf w (by omega)
def okG (b : Bool) : Int := bif b then 0 else 25
def stepG {σ : Type} (st : Nat → σ → List ByteArray → Bool × σ × List ByteArray) (k : Nat) (S : σ) (l : ByteArray) : Bool × σ := if endedL l then ((st k S (wordsL (textL l))).1 && (st k S (wordsL (textL l))).2.2.isEmpty, (st k S (wordsL (textL l))).2.1) else (false, S)
def linesG {σ : Type} (st : Nat → σ → List ByteArray → Bool × σ × List ByteArray) : Nat → σ → List ByteArray → Nat × Bool × σ
 | i, S, [] => (i, true, S)
 | i, S, l :: r => if (stepG st i S l).1 then linesG st (i + 1) (stepG st i S l).2 r else (i, false, (stepG st i S l).2)
theorem linesG_cons {σ : Type} {st : Nat → σ → List ByteArray → Bool × σ × List ByteArray} {i : Nat} {S : σ} {l : ByteArray} {r : List ByteArray} : linesG st i S (l :: r) = if (stepG st i S l).1 then linesG st (i + 1) (stepG st i S l).2 r else (i, false, (stepG st i S l).2) := rfl
theorem stepG_not {σ : Type} {st : Nat → σ → List ByteArray → Bool × σ × List ByteArray} {i : Nat} {S : σ} {l : ByteArray} (h : endedL l = false) : stepG st i S l = (false, S) := by unfold stepG; rw [h]; rfl
theorem stepG_is {σ : Type} {st : Nat → σ → List ByteArray → Bool × σ × List ByteArray} {i : Nat} {S : σ} {l : ByteArray} (h : endedL l = true) : stepG st i S l = ((st i S (wordsL (textL l))).1 && (st i S (wordsL (textL l))).2.2.isEmpty, (st i S (wordsL (textL l))).2.1) := by unfold stepG; rw [h]; rfl
theorem below_words (wr : World) (ws : List ByteArray) : Below wr.heap.size wr ((wr.alloc (.cells (strs ws).toArray 9)).alloc (.cells #[.slice (some ⟨wr.heap.size, 0, none⟩) ws.length ws.length] 225)) := ((Below.refl _ _).alloc (Nat.le_refl _) _).alloc (by simp) _
theorem newWordsG {wr : World} {lb : Nat} {all ws : List ByteArray} (hl : Row wr lb 9 (strs all)) :
 WdI lb all (wr.heap.size + 1) ws ((wr.alloc (.cells (strs ws).toArray 9)).alloc (.cells #[.slice (some ⟨wr.heap.size, 0, none⟩) ws.length ws.length] 225)) := by
 have h2 := Row.new (wr.alloc (.cells (strs ws).toArray 9)) 225 [.slice (some ⟨wr.heap.size, 0, none⟩) ws.length ws.length]
 rw [World.size_alloc] at h2
 exact ⟨hl.old (below_words wr ws), wr.heap.size, 0, ws.length, ws, h2, (Row.new wr 9 (strs ws)).alloc _, fun j x hx => by rw [Nat.zero_add]; exact hx, Nat.le_refl _⟩
set_option maxRecDepth 100000 in
set_option maxHeartbeats 4000000 in
theorem readLinesG_any {σ : Type} (st : Nat → σ → List ByteArray → Bool × σ × List ByteArray) (Inv : Nat → σ → World → Prop) (F : Nat) (bs : Array Value) (w0 : World) (hIb : ∀ k S W, Inv k S W → Below w0.heap.size w0 W) (hIo : ∀ k S W W', Inv k S W → Below W.heap.size W W' → Inv k S W')
 (hF : ∀ k S ws W g lb AL, Inv k S W → WdI lb AL g ws W → ws.length ≤ 10000 → k ≤ 5000 → w0.heap.size ≤ g → Calls Tryz.prog F (#[.int .i64 (k : Int), .pointer (some ⟨g, 0, none⟩)] ++ bs) W fun e w' => e = .returned (.bool (st k S ws).1) ∧ Inv (k + 1) (st k S ws).2.1 w' ∧ WdI lb AL g (st k S ws).2.2 w') (eg : ∀ args w, (callFunc F args).run Tryz.prog w = .ok (.enter F args) w)
 (s : ByteArray) (S0 : σ) (w : World) (hR : Inv 0 S0 w) (hM : Mx w0) (hs : s.size ≤ 4096) :
 Calls Tryz.prog 147 #[.string s, .func (.func F) #[] bs] w fun e w' => e = .returned (.tuple #[.int .i64 (linesG st 0 S0 (linesL s)).1, .int .i64 (okG (linesG st 0 S0 (linesL s)).2.1)]) ∧ ∃ k, Inv k (linesG st 0 S0 (linesL s)).2.2 w' := by
 have HFF := Lib.hid hF
 have HIo := Lib.hid hIo
 have HIb := Lib.hid hIb
 clear hF
 have HM : Hid (∀ W, Below w0.heap.size w0 W → Mx W) := fun W h => hM.old h
 have HR := Lib.hid hR
 have HLO := Lib.hid (linesOf_any s w (by omega) (hM.old (hIb _ _ _ hR)))
 have hll := linesL_le s
 obtain ⟨out, hout⟩ : ∃ out, out = linesG st 0 S0 (linesL s) := ⟨_, rfl⟩
 rw [← hout]
 have HO := Lib.hid hout
 obtain ⟨LL, hLL⟩ : ∃ LL, LL = linesL s := ⟨_, rfl⟩
 obtain ⟨AL, hAL⟩ : ∃ AL, AL = linesA s := ⟨_, rfl⟩
 have HGet : Hid (∀ (j : Nat) x, LL[j]? = some x → AL[j]? = some x) := by rw [hLL, hAL]; exact fun j x h => linesL_get h
 have HSm : Hid (∀ x ∈ LL, x.size ≤ 4096) := by rw [hLL]; exact fun x h => Nat.le_trans (linesL_small h) hs
 rw [← hLL] at HO HLO hll
 rw [← hAL] at HLO
 clear hR hM hout hLL hAL
 go_enter Tryz.func147, Tryz.ntmps147
 go_wp2_with fail
 refine HLO.out.mono ?_
 rintro e w1 ⟨c, rfl, hc, hrow, hb1⟩
 obtain ⟨lb, hlb⟩ : ∃ lb, lb = w.heap.size := ⟨_, rfl⟩
 rw [← hlb] at hrow ⊢
 have HR1 := Lib.hid (hIo _ _ _ _ HR.out hb1)
 have HL1 := Lib.hid hrow
 clear hlb hb1 hrow HR HLO hIb hIo
 go_wp2
 go_loopw [19] (fun u wr => ∃ (k : Nat) (S : σ), k ≤ LL.length ∧ u = .int .i64 k ∧ Hid (Inv k S wr) ∧ Hid (Row wr lb 9 (strs AL)) ∧ Hid (linesG st k S (LL.drop k) = out)) (fun u _ => LL.length - (intOf u).toNat)
 case atStart => exact ⟨0, S0, Nat.zero_le _, rfl, HR1.out, HL1.out, HO.out.symm⟩
 case round =>
  clear HR1 HL1
  obtain ⟨k, S, hk, rfl, HI, HLr, Hgo⟩ := hrel
  by_cases hlt : k < LL.length
  · obtain ⟨l, hl⟩ : ∃ l, l = LL[k] := ⟨_, rfl⟩
    have hgl : LL[k]? = some l := by rw [List.getElem?_eq_getElem hlt, hl]
    have hmem : l ∈ LL := List.mem_of_getElem? hgl
    have hdrop : LL.drop k = l :: LL.drop (k + 1) := by rw [List.drop_eq_getElem_cons hlt, hl]
    have hsm := HSm.out l hmem
    have q0 : wr.cell? ⟨lb, k, none⟩ = some (.string l) := by rw [HLr.out.cell]; simp only [strs, List.getElem?_map]; rw [HGet.out k l hgl]; rfl
    have Hgo2 : Hid ((if (stepG st k S l).1 then linesG st (k + 1) (stepG st k S l).2 (LL.drop (k + 1)) else (k, false, (stepG st k S l).2)) = out) := by
     have := Hgo.out; rw [hdrop, linesG_cons] at this; exact this
    have hts := textL_small l
    have hwl := wordsL_le (textL l)
    have HPW : Hid _ := Lib.hid (newWordsG (ws := wordsL (textL l)) HLr.out)
    have HPI : Hid _ := Lib.hid (HIo.out _ _ _ _ HI.out (below_words wr (wordsL (textL l))))
    have HQ := Lib.hid (HFF.out k S (wordsL (textL l)) _ _ _ _ HPI.out HPW.out (by omega) (by omega) (by have := (HIb.out _ _ _ HI.out).size; omega))
    have HSP := Lib.hid (split_any (textL l) wr (by omega) (HM.out _ (HIb.out _ _ _ HI.out)))
    obtain ⟨ws, hws⟩ : ∃ ws, ws = wordsL (textL l) := ⟨_, rfl⟩
    have Hst : Hid (endedL l = true → stepG st k S l = ((st k S ws).1 && (st k S ws).2.2.isEmpty, (st k S ws).2.1)) := by rw [hws]; exact stepG_is
    have Hst2 : Hid (endedL l = false → stepG st k S l = (false, S)) := stepG_not
    rw [← hws] at HPW HPI HQ HSP hwl
    clear hl hgl hmem hdrop hws Hgo
    have hsz1 : ∀ o : Obj, (wr.alloc o).heap.size = wr.heap.size + 1 := fun o => by simp
    obtain ⟨en, hen⟩ : ∃ en, en = endedL l := ⟨_, rfl⟩
    have HCS := fun W => Lib.hid (cutSuffix_any l W (by omega))
    rw [← hen] at HCS Hst Hst2
    clear hen
    cases en
    · go_wp2_with fail
      refine (HCS _).out.mono ?_
      rintro e w5 ⟨rfl, rfl⟩
      go_wp2_with fail
      refine HSP.out.mono ?_
      rintro e w6 ⟨rfl, rfl⟩
      go_wp2
      have HOut : Hid (out = (k, false, S)) := by have := Hgo2.out; rw [Hst2.out trivial] at this; exact this.symm
      go_ret2
      exact ⟨by rw [HOut.out]; rfl, _, by rw [HOut.out]; exact HPI.out⟩
    · have HPC := HQ
      clear HQ
      obtain ⟨⟨ok, S2, rest⟩, hr⟩ : ∃ r, r = st k S ws := ⟨_, rfl⟩
      rw [← hr] at HPC Hst
      clear hr
      go_wp2_with fail
      refine (HCS _).out.mono ?_
      rintro e w5 ⟨rfl, rfl⟩
      go_wp2_with fail
      refine HSP.out.mono ?_
      rintro e w6 ⟨rfl, rfl⟩
      go_wp2_with fail
      refine HPC.out.mono ?_
      rintro e w7 ⟨rfl, h7i, h7w⟩
      have H7 := Lib.hid h7i
      have H8 := Lib.hid h7w.1
      obtain ⟨-, rb, off, c7, all7, h8, -⟩ := h7w
      have c8 := h8.cell 0
      simp only [List.getElem?_cons_zero] at c8
      clear h7i h8
      cases ok
      · have HOut : Hid (out = (k, false, S2)) := by have := Hgo2.out; rw [Hst.out trivial] at this; exact this.symm
        go_wp2
        go_ret2
        exact ⟨by rw [HOut.out]; rfl, _, by rw [HOut.out]; exact H7.out⟩
      · cases rest with
        | nil =>
          have HOut : Hid (linesG st (k + 1) S2 (LL.drop (k + 1)) = out) := by have := Hgo2.out; rw [Hst.out trivial] at this; exact this
          go_wp2
          go_roundw
          case rel => exact ⟨k + 1, S2, by omega, by go_num, H7.out, H8.out, HOut.out⟩
          case measure => simp [intOf]; omega
        | cons x rest =>
          have HOut : Hid (out = (k, false, S2)) := by have := Hgo2.out; rw [Hst.out trivial] at this; exact this.symm
          have hpos : 0 < (x :: rest).length := by simp
          obtain ⟨n7, hn7⟩ : ∃ n7, n7 = (x :: rest).length := ⟨_, rfl⟩
          rw [← hn7] at c8 hpos
          clear hn7
          have hpos2 : ¬ n7 = 0 := by omega
          have hpos3 : ¬ (n7 : Int) ≤ 0 := by omega
          have hpos4 : (0 : Int) < (n7 : Int) := by omega
          go_wp2
          go_ret2
          exact ⟨by rw [HOut.out]; rfl, _, by rw [HOut.out]; exact H7.out⟩
  · obtain rfl : k = LL.length := by omega
    have HOut : Hid (out = (LL.length, true, S)) := by have := Hgo.out; rw [List.drop_length] at this; exact this.symm
    go_wp2
    go_ret2
    exact ⟨by rw [HOut.out]; rfl, _, by rw [HOut.out]; exact HI.out⟩
set_option maxRecDepth 100000
set_option maxHeartbeats 2000000
def valsI (n : Nat) (ws : List ByteArray) : List Int := (List.range n).map fun i => intV (headW (ws.drop i)).data.toList
def oksI (n : Nat) (ws : List ByteArray) : Bool := (List.range n).all fun i => intOk (headW (ws.drop i)).data.toList
theorem valsI_len (n : Nat) (ws : List ByteArray) : (valsI n ws).length = n := by simp [valsI]
theorem valsI_get (n : Nat) (ws : List ByteArray) (k : Nat) (hk : k < (valsI n ws).length) : (valsI n ws)[k] = intV (headW (ws.drop k)).data.toList := by simp [valsI]
theorem oksI_succ (n : Nat) (ws : List ByteArray) : oksI (n + 1) ws = (oksI n ws && intOk (headW (ws.drop n)).data.toList) := by simp [oksI, List.range_succ, List.all_append]
theorem grT {a b c : World} {row row' : Option Nat} (h : a.grownBy b row) (k : b.grownBy c row') (hr : ∀ j, row' = some j → a.heap.size ≤ j ∨ row = some j) : a.grownBy c row :=
 ⟨k.os.trans h.os, k.tape.trans h.tape, k.output.trans h.output, Nat.le_trans h.size k.size, fun i hi hn => (k.block i (Nat.lt_of_lt_of_le hi h.size) (fun e => by
   rcases hr i e.symm with h1 | h1
   · omega
   · exact hn h1.symm)).trans (h.block i hi hn)⟩
theorem belowGr2 {W W' : World} (hb : Below W.heap.size W W') : W.grownBy W' none := ⟨hb.os, hb.tape, hb.output, hb.size, fun k hk _ => hb.block k hk⟩
theorem setGr (W : World) (q k : Nat) (v : Value) : W.grownBy (W.setCell ⟨q, k, none⟩ v) (some q) := ⟨rfl, rfl, rfl, by simp, fun j _ hj => heap_setCell_other _ _ _ _ (fun e => hj (by rw [e]))⟩
theorem WdI.lt {lb g : Nat} {AL ws : List ByteArray} {W : World} (h : WdI lb AL g ws W) : g < W.heap.size := by
 obtain ⟨-, rb, off, c, all, h1, -⟩ := h; exact h1.lt
theorem takenI_any (lb g n : Nat) (AL ws : List ByteArray) (w : World) (h : WdI lb AL g ws w) (hm : ws.length ≤ 1000000) (hn : n ≤ 1000) :
 Calls Tryz.prog 149 #[.int .i64 (n : Int), .func (.func 116) #[.pointer (some ⟨g, 0, none⟩)] #[], .func (.func 150) #[] #[]] w fun e w' => e = .returned (.tuple #[.slice (some ⟨w.heap.size, 0, none⟩) n n, .bool (oksI n ws)]) ∧ Row w' w.heap.size 3 (ints (valsI n ws)) ∧ WdI lb AL g (ws.drop n) w' ∧ w.grownBy w' (some g) := by
 have H0 := Lib.hid h
 have hlt0 := h.lt
 clear h
 have hmk := fun W : World => make1 (P := Tryz.prog) 74 3 (.int .i64 0) 8 Tryz.underlying74 info3 rfl n (by omega) (by omega) W
 go_enter Tryz.func149, Tryz.ntmps149
 go_wp2
 go_loopw [9, 16] (fun o i wr => ∃ k : Nat, k ≤ n ∧ i = .int .i64 k ∧ o = .bool (oksI k ws) ∧ Hid (Row wr w.heap.size 3 (((valsI n ws).take k).map (Value.int .i64) ++ List.replicate (n - k) (.int .i64 0))) ∧ Hid (WdI lb AL g (ws.drop k) wr) ∧ Hid (w.grownBy wr (some g))) (fun _ i _ => n - (intOf i).toNat)
 case atStart =>
  refine ⟨0, Nat.zero_le _, rfl, rfl, ?_, H0.out.old ((Below.refl _ _).alloc (Nat.le_refl _) _), World.grownBy_alloc _ _ _⟩
  have := Row.new w 3 (List.replicate n (.int .i64 0))
  unfold Hid; simpa using this
 case round =>
  obtain ⟨k, hk, rfl, rfl, hrow, hwd, hgr⟩ := hrel
  by_cases hlt : k < n
  · have hset := Lib.hid (part_setG (Value.int .i64) (valsI n ws) (.int .i64 0) n k (by rw [valsI_len]; exact hlt) (valsI_len n ws).symm)
    have hvk := Lib.hid (valsI_get n ws k (by rw [valsI_len]; exact hlt))
    have hok := Lib.hid (oksI_succ k ws)
    have hdt : Hid ((ws.drop k).tail = ws.drop (k + 1)) := by unfold Hid; rw [List.tail_drop]
    have hml : (ws.drop k).length ≤ 1000000 := by rw [List.length_drop]; omega
    obtain ⟨b0, hb0⟩ : ∃ b0, b0 = oksI k ws := ⟨_, rfl⟩
    obtain ⟨hd, hhd⟩ : ∃ hd, hd = headW (ws.drop k) := ⟨_, rfl⟩
    have HNX := Lib.hid (next_any g (ws.drop k) wr hwd.out hml)
    rw [← hhd] at HNX hvk hok
    rw [← hb0] at hok ⊢
    clear hb0 hhd
    go_wp2_with fail
    refine HNX.out.mono ?_
    rintro e w1 ⟨rfl, hw1, hg1⟩
    go_wp2_with fail
    refine (integer_any hd w1).mono ?_
    rintro e w2 ⟨rfl, hb2⟩
    have hgne : g ≠ w.heap.size := by omega
    have hrow2 := (hrow.out.grown hg1 (fun e => hgne (Option.some.inj e).symm)).old hb2
    have HW2 : Hid (WdI lb AL g (ws.drop (k + 1)) w2) := by rw [← hdt.out]; exact hw1.old hb2
    have HG2 : Hid (w.grownBy w2 (some g)) := grT (grT hgr.out hg1 (fun j e => .inr e)) (belowGr2 hb2) (fun j e => by cases e)
    have hc2 : w2.cell? ⟨w.heap.size, k, none⟩ = some (.int .i64 0) := by
     rw [hrow2.cell]
     exact mid_get _ _ _ _ (by simp [valsI_len]; omega) hlt
    have hf2 := hrow2.free k
    have HR2 := Lib.hid hrow2
    obtain ⟨v, hv⟩ : ∃ v, v = intV hd.data.toList := ⟨_, rfl⟩
    obtain ⟨ov, hov⟩ : ∃ ov, ov = intOk hd.data.toList := ⟨_, rfl⟩
    unfold intE
    rw [← hv] at hvk ⊢
    rw [← hov] at hok ⊢
    clear hrow hwd hgr hw1 hg1 hb2 hrow2 hdt HNX hv hov
    cases b0
    all_goals
     go_wp2
     go_roundw
     case rel => exact ⟨k + 1, by omega, by go_num, by rw [hok.out]; rfl, by rw [← hset.out, hvk.out]; exact HR2.out.set k _, WdI.grown HW2.out (setGr _ _ _ _) (fun j t us hj ht e => by have e2 := Option.some.inj e; subst e2; rcases ht with rfl | rfl <;> exact absurd rfl (hj.ne HR2.out (by decide))), grT HG2.out (setGr _ _ _ _) (fun j e => by cases e; exact .inl (Nat.le_refl _))⟩
     case measure => simp [intOf]; omega
  · obtain rfl : k = n := by omega
    go_wp2
    go_ret2
    refine ⟨rfl, ?_, hwd.out, hgr.out⟩
    have := hrow.out
    rw [Nat.sub_self, List.replicate_zero, List.append_nil, List.take_of_length_le (by rw [valsI_len]; exact Nat.le_refl _)] at this
    exact this
theorem integersW_any (lb g n : Nat) (AL ws : List ByteArray) (w : World) (h : WdI lb AL g ws w) (hm : ws.length ≤ 1000000) (hn : n ≤ 1000) :
 Calls Tryz.prog 117 #[.int .i64 (n : Int), .func (.func 116) #[.pointer (some ⟨g, 0, none⟩)] #[]] w fun e w' => e = .returned (.tuple #[.slice (some ⟨w.heap.size, 0, none⟩) n n, .bool (oksI n ws)]) ∧ Row w' w.heap.size 3 (ints (valsI n ws)) ∧ WdI lb AL g (ws.drop n) w' ∧ w.grownBy w' (some g) := by
 go_enter Tryz.func117, Tryz.ntmps117
 go_wp2_with (refine (takenI_any lb g n AL ws w h hm hn).mono ?_; rintro e w1 ⟨rfl, hr1, hw1, hg1⟩)
 go_ret2
 exact ⟨rfl, hr1, hw1, hg1⟩
end Go.Proofs.YtaknlhepgeiekaaGreatDoor
namespace Go.Proofs.YtaknlhepgeiekaaGreatDoor
set_option linter.all false
open Go.RowKit Go.Lib
def consH (x : UInt8) : List (List UInt8) → List (List UInt8)
 | [] => [[x]]
 | w :: ws => (x :: w) :: ws
def cutG (c : UInt8) (sv : Nat) : List UInt8 → List (List UInt8)
 | [] => [[]]
 | x :: l => if x = c then [c].take sv :: cutG c sv l else consH x (cutG c sv l)
theorem cutG_ne (c : UInt8) (sv : Nat) : ∀ l, cutG c sv l ≠ []
 | [] => by simp [cutG]
 | x :: l => by
   unfold cutG
   split
   · simp
   · cases h : cutG c sv l <;> simp [consH]
theorem index_eq0 (c : UInt8) (l : List UInt8) : index (c :: l) [c] = 0 := by
 rw [index]; simp [List.isPrefixOf]
theorem index_ne1 {x c : UInt8} (h : x ≠ c) (l : List UInt8) : index (x :: l) [c] = if index l [c] == -1 then -1 else index l [c] + 1 := by
 have hp : ([c] : List UInt8).isPrefixOf (x :: l) = false := by simp [List.isPrefixOf, Ne.symm h]
 rw [index, hp]; simp
theorem splitK_cut (c : UInt8) {sv : Nat} (hs : sv ≤ 1) : ∀ s : List UInt8, splitK [c] sv (count s [c]) s = cutG c sv s
 | [] => by rw [count_one]; rfl
 | x :: l => by
   have ih := splitK_cut c hs l
   unfold cutG
   by_cases h : x = c
   · subst h
     rw [if_pos rfl, count_cons_eq, Nat.add_comm, splitK, index_eq0, if_neg (by decide)]
     show List.take (0 + sv) (x :: l) :: splitK [x] sv (count l [x]) (List.drop 1 (x :: l)) = _
     rw [Nat.zero_add, List.drop_one, List.tail_cons, ih]
     congr 1
     match sv, hs with
     | 0, _ => rfl
     | 1, _ => rfl
   · rw [if_neg h, count_cons_ne x c l h]
     cases hk : count l [c] with
     | zero =>
       rw [hk] at ih
       rw [← ih]; rfl
     | succ k =>
       rw [hk] at ih
       have hm : ¬ index l [c] = -1 := fun e => by rw [count_miss e] at hk; cases hk
       have hge := index_ge l [c]
       obtain ⟨i, hi⟩ : ∃ i : Nat, index l [c] = i := ⟨(index l [c]).toNat, by omega⟩
       have hb : (index l [c] == -1) = false := by rw [beq_eq_false_iff_ne]; exact hm
       have hx : index (x :: l) [c] = ((i + 1 : Nat) : Int) := by rw [index_ne1 h, hb, hi]; simp
       rw [← ih]
       have n1 : ¬ (index (x :: l) [c] == -1) = true := by rw [beq_iff_eq, hx]; omega
       have n2 : ¬ (index l [c] == -1) = true := by rw [hb]; simp
       unfold splitK
       rw [if_neg n1, if_neg n2, hx, hi]
       show List.take (i + 1 + sv) (x :: l) :: splitK [c] sv k (List.drop (i + 1 + 1) (x :: l)) = (x :: List.take (i + sv) l) :: splitK [c] sv k (List.drop (i + 1) l)
       rw [show i + 1 + sv = (i + sv) + 1 by omega]
       rfl
theorem cutG_no {c : UInt8} {sv : Nat} : ∀ {a : List UInt8}, c ∉ a → cutG c sv a = [a]
 | [], _ => rfl
 | x :: a, h => by
   have h1 : x ≠ c := fun e => h (by rw [e]; exact List.mem_cons_self)
   have h2 : c ∉ a := fun e => h (List.mem_cons_of_mem _ e)
   unfold cutG
   rw [if_neg h1, cutG_no h2]; rfl
theorem cutG_app {c : UInt8} {sv : Nat} : ∀ {a : List UInt8} (b : List UInt8), c ∉ a → cutG c sv (a ++ c :: b) = (a ++ [c].take sv) :: cutG c sv b
 | [], b, _ => by
   show (if c = c then _ else _) = _
   rw [if_pos rfl]; rfl
 | x :: a, b, h => by
   have h1 : x ≠ c := fun e => h (by rw [e]; exact List.mem_cons_self)
   have h2 : c ∉ a := fun e => h (List.mem_cons_of_mem _ e)
   show (if x = c then _ else consH x (cutG c sv (a ++ c :: b))) = _
   rw [if_neg h1, cutG_app b h2]; rfl
theorem cutG_lines {c : UInt8} : ∀ {ls : List (List UInt8)}, (∀ l ∈ ls, c ∉ l) → cutG c 1 (ls.flatMap fun l => l ++ [c]) = (ls.map fun l => l ++ [c]) ++ [[]]
 | [], _ => rfl
 | l :: ls, h => by
   have e : ((l :: ls).flatMap fun l => l ++ [c]) = l ++ c :: (ls.flatMap fun l => l ++ [c]) := by simp
   rw [e, cutG_app _ (h l List.mem_cons_self), cutG_lines fun x hx => h x (List.mem_cons_of_mem _ hx)]
   rfl
theorem join_cons2 (a b : List UInt8) (r : List (List UInt8)) (sep : List UInt8) : Lib.join (a :: b :: r) sep = a ++ sep ++ Lib.join (b :: r) sep := by
 simp [Lib.join, List.append_assoc]
theorem cutG_of_join {c : UInt8} : ∀ {ws : List (List UInt8)}, ws ≠ [] → (∀ w ∈ ws, c ∉ w) → cutG c 0 (Lib.join ws [c]) = ws
 | [], h, _ => absurd rfl h
 | [w], _, h => by
   have e : Lib.join [w] [c] = w := by simp [Lib.join]
   rw [e, cutG_no (h w List.mem_cons_self)]
 | w :: v :: r, _, h => by
   rw [join_cons2, List.append_assoc, List.singleton_append, cutG_app _ (h w List.mem_cons_self), cutG_of_join (by simp) fun x hx => h x (List.mem_cons_of_mem _ hx)]
   simp
def bl (s : ByteArray) : List UInt8 := s.data.toList
def lb (l : List UInt8) : ByteArray := ⟨l.toArray⟩
theorem lb_bl (s : ByteArray) : lb (bl s) = s := by
 unfold lb bl
 rfl
theorem bl_lb (l : List UInt8) : bl (lb l) = l := rfl
theorem splitB_cut (c : UInt8) {sv : Nat} (hs : sv ≤ 1) (s : ByteArray) : splitB ⟨#[c]⟩ sv (countB s ⟨#[c]⟩) s = (cutG c sv (bl s)).map lb := by
 have h := splitB_data ⟨#[c]⟩ sv (countB s ⟨#[c]⟩) s
 have e : splitK [c] sv (countB s ⟨#[c]⟩) (bl s) = cutG c sv (bl s) := splitK_cut c hs (bl s)
 have h2 : (splitB ⟨#[c]⟩ sv (countB s ⟨#[c]⟩) s).map bl = cutG c sv (bl s) := h.trans e
 rw [← h2, List.map_map]
 have e2 : (lb ∘ bl) = id := funext lb_bl
 rw [e2, List.map_id]
theorem linesA_cut (s : ByteArray) : linesA s = (cutG 10 1 (bl s)).map lb := splitB_cut 10 (Nat.le_refl _) s
theorem wordsL_cut (s : ByteArray) : wordsL s = (cutG 32 0 (bl s)).map lb := splitB_cut 32 (Nat.zero_le _) s
theorem digC_iff {c : UInt8} : digC c = true ↔ 48 ≤ c.toNat ∧ c.toNat ≤ 57 := by unfold digC; simp
theorem dec_small {u : Nat} (h : u < 10) : decDigits u = [UInt8.ofNat (48 + u)] := decDigits_one h
theorem dec_big {u : Nat} (h : ¬ u < 10) : decDigits u = decDigits (u / 10) ++ [UInt8.ofNat (48 + u % 10)] := by rw [decDigits, dif_neg h]
theorem dig_nat {d : Nat} (h : d < 10) : (UInt8.ofNat (48 + d)).toNat = 48 + d := by rw [UInt8.toNat_ofNat_of_lt' (by show 48 + d < 256; omega)]
theorem dec_all : ∀ u : Nat, (decDigits u).all digC = true := by
 intro u
 induction u using Nat.strongRecOn with
 | _ u ih =>
   by_cases h : u < 10
   · rw [dec_small h]
     simp only [List.all_cons, List.all_nil, Bool.and_true]
     rw [digC_iff, dig_nat h]; omega
   · rw [dec_big h, List.all_append, ih (u / 10) (by omega)]
     simp only [List.all_cons, List.all_nil, Bool.and_true, Bool.true_and]
     rw [digC_iff, dig_nat (by omega)]; omega
theorem dec_val : ∀ u : Nat, valI (decDigits u) = (u : Int) := by
 intro u
 induction u using Nat.strongRecOn with
 | _ u ih =>
   by_cases h : u < 10
   · rw [dec_small h]
     show (10 * 0 + (((UInt8.ofNat (48 + u)).toNat : Int) - 48)) = u
     rw [dig_nat h]; omega
   · rw [dec_big h, valI_snoc, ih (u / 10) (by omega), dig_nat (by omega)]; omega
theorem dec_ne (u : Nat) : decDigits u ≠ [] := by
 by_cases h : u < 10
 · rw [dec_small h]; simp
 · rw [dec_big h]; simp
theorem headD_app {l m : List UInt8} (h : l ≠ []) : (l ++ m).headD 0 = l.headD 0 := by
 cases l with
 | nil => exact absurd rfl h
 | cons a l => rfl
theorem dec_head : ∀ u : Nat, u ≠ 0 → (decDigits u).headD 0 ≠ 48 := by
 intro u
 induction u using Nat.strongRecOn with
 | _ u ih =>
   intro h0
   by_cases h : u < 10
   · rw [dec_small h]
     show UInt8.ofNat (48 + u) ≠ 48
     intro e
     have := congrArg UInt8.toNat e
     rw [dig_nat h] at this
     have e48 : (48 : UInt8).toNat = 48 := rfl
     omega
   · rw [dec_big h, headD_app (dec_ne _)]
     exact ih (u / 10) (by omega) (by omega)
theorem dec_len : ∀ (k u : Nat), u < 10 ^ (k + 1) → (decDigits u).length ≤ k + 1
 | 0, u, h => by rw [dec_small (by omega)]; simp
 | k + 1, u, h => by
   by_cases h1 : u < 10
   · rw [dec_small h1]; simp
   · rw [dec_big h1, List.length_append]
     have := dec_len k (u / 10) (by rw [Nat.pow_succ] at h; omega)
     simp only [List.length_cons, List.length_nil]; omega
theorem dec_ok {u : Nat} (h : u ≤ 999999999) : countOk (decDigits u) = true ∧ countV (decDigits u) = (u : Int) := by
 have h1 : countOk (decDigits u) = true := by
  unfold countOk
  have hl := dec_len 8 u (by omega)
  have hz : zeroHead (decDigits u) = false := by
   unfold zeroHead
   by_cases h0 : u = 0
   · subst h0; rw [dec_small (by decide)]; rfl
   · rw [decide_eq_false (dec_head u h0)]; rfl
  have he : (decDigits u).isEmpty = false := by
   cases hd : decDigits u with
   | nil => exact absurd hd (dec_ne u)
   | cons a l => rfl
  rw [he, hz, dec_all, decide_eq_true (show (decDigits u).length ≤ 9 by omega)]; rfl
 refine ⟨h1, ?_⟩
 unfold countV
 rw [if_pos h1, dec_val]
theorem dec_canon : ∀ (l : List UInt8), l ≠ [] → l.all digC = true → (l.headD 0 = 48 → l = [48]) → decDigits (valI l).toNat = l := by
 intro l
 obtain ⟨n, hn⟩ : ∃ n, l.length = n := ⟨_, rfl⟩
 induction n generalizing l with
 | zero => intro h; exact absurd (List.eq_nil_of_length_eq_zero hn) h
 | succ n ih =>
   intro hne ha hz
   have e := List.dropLast_concat_getLast hne
   obtain ⟨c, hc⟩ : ∃ c, c = l.getLast hne := ⟨_, rfl⟩
   obtain ⟨m, hm⟩ : ∃ m, m = l.dropLast := ⟨_, rfl⟩
   rw [← hc, ← hm] at e
   have hml : m.length = n := by rw [hm]; simp [hn]
   rw [← e, List.all_append] at ha
   simp only [Bool.and_eq_true, List.all_cons, List.all_nil, Bool.and_true] at ha
   obtain ⟨ha1, ha2⟩ := ha
   rw [digC_iff] at ha2
   have hcd : UInt8.ofNat (48 + (c.toNat - 48)) = c := by rw [show 48 + (c.toNat - 48) = c.toNat by omega, UInt8.ofNat_toNat]
   rw [← e, valI_snoc]
   by_cases hm0 : m = []
   · rw [hm0]
     show decDigits (10 * 0 + ((c.toNat : Int) - 48)).toNat = [c]
     rw [show (10 * 0 + ((c.toNat : Int) - 48)).toNat = c.toNat - 48 by omega, dec_small (by omega), hcd]
   · have hh : m.headD 0 ≠ 48 := by
      intro h48
      have h1 : l.headD 0 = 48 := by rw [← e, headD_app hm0]; exact h48
      have h2 := hz h1
      have h3 : l.length = 1 := by rw [h2]; rfl
      have h4 : m.length = 0 := by omega
      exact hm0 (List.eq_nil_of_length_eq_zero h4)
     have ih2 := ih m hml hm0 ha1 (fun h => absurd h hh)
     obtain ⟨hv0, -⟩ := valI_bd m.length m rfl ha1
     have hv1 : (valI m).toNat ≠ 0 := by
      intro h0
      rw [h0, dec_small (by decide)] at ih2
      apply hh
      rw [← ih2]; rfl
     have hu : (10 * valI m + ((c.toNat : Int) - 48)).toNat = 10 * (valI m).toNat + (c.toNat - 48) := by omega
     rw [hu, dec_big (by omega), show (10 * (valI m).toNat + (c.toNat - 48)) / 10 = (valI m).toNat by omega, show (10 * (valI m).toNat + (c.toNat - 48)) % 10 = c.toNat - 48 by omega, ih2, hcd]
theorem count_canon {l : List UInt8} (h : countOk l = true) : decDigits (countV l).toNat = l := by
 have h0 := h
 unfold countOk at h0
 simp only [Bool.and_eq_true, decide_eq_true_eq, Bool.not_eq_true'] at h0
 obtain ⟨⟨⟨h1, h2⟩, h3⟩, h4⟩ := h0
 unfold countV
 rw [if_pos h]
 refine dec_canon l (by intro e; subst e; cases h1) h4 fun h48 => ?_
 unfold zeroHead at h3
 rw [decide_eq_true h48, Bool.true_and, decide_eq_false_iff_not] at h3
 exact Classical.not_not.1 h3
theorem itoa_nat (u : Nat) : itoa (u : Int) = decDigits u := itoa_nonneg u
theorem count_itoa {l : List UInt8} (h : countOk l = true) : itoa (countV l) = l := by
 obtain ⟨h1, -⟩ := countV_bd l
 obtain ⟨u, hu⟩ : ∃ u : Nat, countV l = u := ⟨(countV l).toNat, by omega⟩
 have := count_canon h
 rw [hu] at this ⊢
 rw [itoa_nat]
 exact this
theorem dec_45 (u : Nat) : ∀ t, decDigits u ≠ 45 :: t := by
 intro t e
 have h := dec_all u
 rw [e] at h
 simp [digC] at h
theorem neg_dec (u : Nat) : negL (decDigits u) = false := by
 unfold negL Lib.hasPrefix
 cases hd : decDigits u with
 | nil => rfl
 | cons a l =>
   have := dec_45 u l
   rw [hd] at this
   have ha : a ≠ 45 := fun e => this (by rw [e])
   simp [List.isPrefixOf, Ne.symm ha]
theorem tail_neg (l : List UInt8) : tailL (45 :: l) = l := by
 unfold tailL Lib.trimPrefix; simp [Lib.hasPrefix, List.isPrefixOf]
theorem neg_cons (l : List UInt8) : negL (45 :: l) = true := by
 unfold negL; simp [Lib.hasPrefix, List.isPrefixOf]
theorem tail_not {l : List UInt8} (h : negL l = false) : tailL l = l := by
 unfold negL at h
 unfold tailL Lib.trimPrefix
 rw [h]; rfl
theorem int_ok {n : Int} (h : n.natAbs ≤ 999999999) : intOk (itoa n) = true ∧ intV (itoa n) = n := by
 by_cases h0 : n < 0
 · obtain ⟨u, hu⟩ : ∃ u : Nat, n = -(u : Int) := ⟨n.natAbs, by omega⟩
   subst hu
   obtain ⟨h1, h2⟩ := dec_ok (u := u) (by omega)
   rw [itoa_neg u (by omega)]
   unfold intOk intV
   rw [neg_cons, tail_neg, cond_true, cond_true, h1, h2]
   exact ⟨by simp; omega, rfl⟩
 · obtain ⟨u, hu⟩ : ∃ u : Nat, n = (u : Int) := ⟨n.natAbs, by omega⟩
   subst hu
   obtain ⟨h1, h2⟩ := dec_ok (u := u) (by omega)
   rw [itoa_nat]
   unfold intOk intV
   rw [neg_dec, tail_not (neg_dec u), cond_false, cond_false, h1, h2]
   exact ⟨rfl, rfl⟩
theorem dec_mem {u : Nat} {c : UInt8} (h : c ∈ decDigits u) : 48 ≤ c.toNat ∧ c.toNat ≤ 57 := digC_iff.1 (List.all_eq_true.1 (dec_all u) c h)
theorem itoa_mem {n : Int} {c : UInt8} (h : c ∈ itoa n) : c = 45 ∨ 48 ≤ c.toNat ∧ c.toNat ≤ 57 := by
 unfold itoa at h
 split at h
 · rcases List.mem_cons.1 h with h | h
   · exact .inl h
   · exact .inr (dec_mem h)
 · exact .inr (dec_mem h)
theorem itoa_no {n : Int} {c : UInt8} (hc : c.toNat < 45) : c ∉ itoa n := by
 intro h
 rcases itoa_mem h with rfl | h
 · have e : (45 : UInt8).toNat = 45 := rfl
   omega
 · omega
end Go.Proofs.YtaknlhepgeiekaaGreatDoor
namespace Go.Proofs.YtaknlhepgeiekaaGreatDoor
set_option linter.all false
open Go.RowKit Go.Fl
theorem cut_count (c : UInt8) : ∀ l : List UInt8, (cutG c 0 l).length = l.count c + 1
 | [] => rfl
 | x :: l => by
   unfold cutG
   by_cases h : x = c
   · subst h
     rw [if_pos rfl, List.length_cons, cut_count x l, List.count_cons_self]
   · have hl : ∀ ls : List (List UInt8), ls ≠ [] → (consH x ls).length = ls.length := by
      intro ls h
      cases ls with
      | nil => exact absurd rfl h
      | cons a b => rfl
     rw [if_neg h, hl _ (cutG_ne c 0 l), cut_count c l, List.count_cons_of_ne (by simpa using h)]
theorem get_bl {s : ByteArray} {k : Nat} (h : k < s.size) : (bl s)[k]? = some s[k] := by
 show s.data.toList[k]? = _
 rw [Array.getElem?_toList]
 exact Array.getElem?_eq_getElem h

theorem bl_len (s : ByteArray) : (bl s).length = s.size := Array.length_toList
theorem take_one {s : ByteArray} {k : Nat} (h : k < s.size) : (bl s).take (k + 1) = (bl s).take k ++ [s[k]] := by
 rw [List.take_add_one, get_bl h]; rfl

theorem cutG_snoc_eq (c : UInt8) : ∀ l : List UInt8, cutG c 0 (l ++ [c]) = cutG c 0 l ++ [[]]
 | [] => by
   show (if c = c then _ else _) = _
   rw [if_pos rfl]; rfl
 | y :: l => by
   have ih := cutG_snoc_eq c l
   show (if y = c then _ else consH y (cutG c 0 (l ++ [c]))) = (if y = c then _ else consH y (cutG c 0 l)) ++ [[]]
   by_cases h : y = c
   · rw [if_pos h, if_pos h]
     show [c].take 0 :: cutG c 0 (l ++ [c]) = _
     rw [ih]; rfl
   · rw [if_neg h, if_neg h, ih]
     cases hc : cutG c 0 l with
     | nil => exact absurd hc (cutG_ne c 0 l)
     | cons w ws => rfl
theorem cutG_snoc_ne {c x : UInt8} (hx : x ≠ c) : ∀ {l : List UInt8} {ls : List (List UInt8)} {a : List UInt8}, cutG c 0 l = ls ++ [a] → cutG c 0 (l ++ [x]) = ls ++ [a ++ [x]]
 | [], ls, a, h => by
   have h1 : [[]] = ls ++ [a] := h
   have h2 : ls = [] ∧ a = [] := by
    cases ls with
    | nil => simp at h1; exact ⟨rfl, h1⟩
    | cons b bs => simp at h1
   rw [h2.1, h2.2]
   show (if x = c then _ else _) = _
   rw [if_neg hx]; rfl
 | y :: l, ls, a, h => by
   have h0 : (if y = c then [c].take 0 :: cutG c 0 l else consH y (cutG c 0 l)) = ls ++ [a] := h
   show (if y = c then [c].take 0 :: cutG c 0 (l ++ [x]) else consH y (cutG c 0 (l ++ [x]))) = _
   by_cases hy : y = c
   · rw [if_pos hy] at h0
     rw [if_pos hy]
     cases ls with
     | nil =>
       exfalso
       have h1 := congrArg List.length h0
       simp at h1
       exact cutG_ne c 0 l h1
     | cons b bs =>
       rw [List.cons_append] at h0
       injection h0 with h1 h2
       rw [cutG_snoc_ne hx h2, h1]; rfl
   · rw [if_neg hy] at h0
     rw [if_neg hy]
     cases hc : cutG c 0 l with
     | nil => exact absurd hc (cutG_ne c 0 l)
     | cons w ws =>
       rw [hc] at h0
       have h1 : (y :: w) :: ws = ls ++ [a] := h0
       cases ls with
       | nil =>
         have h2 : (y :: w) = a ∧ ws = [] := by simpa using h1
         have h3 := cutG_snoc_ne (ls := []) (a := w) hx (by rw [hc, h2.2]; rfl)
         rw [h3, ← h2.1]; rfl
       | cons b bs =>
         rw [List.cons_append] at h1
         injection h1 with h2 h3
         have h4 := cutG_snoc_ne (ls := w :: bs) (a := a) hx (by rw [hc, h3]; rfl)
         rw [h4, ← h2]; rfl
theorem ext_lb (s : ByteArray) (f i : Nat) : s.extract f i = lb (((bl s).take i).drop f) := by
 have h : bl (s.extract f i) = ((bl s).take i).drop f := by
  show (s.extract f i).data.toList = _
  rw [Lib.extract_data, List.drop_take]; rfl
 rw [← h, lb_bl]
set_option maxRecDepth 100000 in
set_option maxHeartbeats 2000000 in
theorem splitR_full (s : ByteArray) (c : UInt8) (w : World) (hs : s.size ≤ 100000) :
 Calls Tryz.prog 18 #[.string s, .int .u8 (c.toNat : Int)] w fun e w' => ∃ A k, e = .returned (.slice A (cutG c 0 (bl s)).length k) ∧ Rd w' A (strs ((cutG c 0 (bl s)).map lb)) ∧ Below w.heap.size w w' := by
 obtain ⟨M, hM⟩ : ∃ M, M = w.heap.size := ⟨_, rfl⟩
 have HM := Lib.hid hM
 have hst0 : w.ownsRow M 9 1 (.slice none 0 0) 0 (strs []) := ⟨by simp [strs], .inl ⟨rfl, rfl⟩⟩
 have HST0 := Lib.hid hst0
 obtain ⟨iS, hiS, hiS0, hiS1, hiS2⟩ := info_parts info9
 obtain ⟨cv, hcv⟩ : ∃ cv : Nat, cv = c.toNat := ⟨_, rfl⟩
 have HCV := Lib.hid hcv
 rw [← hcv]
 clear hM hst0 hcv
 go_enter Tryz.func18, Tryz.ntmps18
 go_wp2_with fail
 go_loopg [5, 6, 7] s.size (fun g s5 s6 s7 wr => ∃ (i f : Nat) (ls : List ByteArray), i + g = s.size ∧ s7 = .int .i64 i ∧ s6 = .int .i64 f ∧ f ≤ i ∧ Hid (∃ bs, ls = bs.map lb ∧ cutG c 0 ((bl s).take i) = bs ++ [((bl s).take i).drop f]) ∧ Hid (wr.ownsRow M 9 1 s5 ls.length (strs ls)) ∧ Hid (Below M w wr))
 case atStart => exact ⟨0, 0, [], by omega, rfl, rfl, Nat.le_refl _, ⟨[], rfl, rfl⟩, HST0.out, Below.refl _ _⟩
 case round =>
  clear HST0
  obtain ⟨i, f, ls, hi, rfl, rfl, hf, hl, hown, hb⟩ := hrel
  have hmz : M ≤ wr.heap.size := by have h1 := hb.out.size; have h2 := HM.out; omega
  obtain ⟨nl, hnl⟩ : ∃ nl, nl = ls.length := ⟨_, rfl⟩
  have hln : nl ≤ 100000 := by
   obtain ⟨bs, h1, h4⟩ := hl.out
   have h5 := cut_count c ((bl s).take i)
   rw [h4, List.length_append, List.length_singleton] at h5
   have h2 : ((bl s).take i).count c ≤ ((bl s).take i).length := List.count_le_length
   have h3 : (bl s).length = s.size := by show s.data.toList.length = _; simp
   rw [List.length_take, h3] at h2
   rw [hnl, h1, List.length_map]
   omega
  have HNL := Lib.hid hnl
  by_cases hlt : i < s.size
  · have hs3 := Lib.hid (take_one hlt)
    have i1 : (i : Int) < (s.size : Int) := by omega
    have i2 : (f : Int) ≤ (i : Int) := by omega
    by_cases hc : s[i] = c
    · have e1 : ((s[i].toNat : Int) == (cv : Int)) = true := by rw [hc, HCV.out]; simp
      have HC := Lib.hid hc
      have HO := Lib.hid hown.out
      have ho2 := hown.out
      rw [← hnl] at ho2
      have HO2 := Lib.hid ho2
      clear hc hown ho2 hnl
      go_wp2_with (at_builtin; refine wpList_append_own_at _ rfl _ _ 51 rfl M 9 iS (.string ⟨#[]⟩) 1 16 Tryz.underlying51 hiS hiS0 hiS1 hiS2 rfl (by decide) _ nl (strs ls) rfl (HO2.out.alloc _) ⟨wr.heap.size, 0, none⟩ 1 1 [.string (s.extract f i)] rfl rfl (news1 _ _ _ _ rfl) (by simp [Value.oneCell']) (by unfold maxLen; omega) (by omega) (by simp; omega) ?_; intro v' w1 hown' hgrow _ hat2)
      go_roundg (s.size - (i + 1))
      case measure => omega
      case rel =>
       refine ⟨i + 1, i + 1, ls ++ [s.extract f i], by omega, by go_num, by go_num, Nat.le_refl _, ?_, ?_, Below.app hb.out hmz HO2.out hgrow⟩
       · obtain ⟨bs, k1, k2⟩ := hl.out
         refine ⟨bs ++ [((bl s).take i).drop f], ?_, ?_⟩
         · rw [List.map_append, ← k1, List.map_cons, List.map_nil, ext_lb]
         · have h3 : ((bl s).take (i + 1)).length ≤ i + 1 := List.length_take_le _ _
           rw [List.drop_of_length_le h3, hs3.out, HC.out, cutG_snoc_eq, k2]
       · have h := hown'
         unfold Hid
         rw [List.length_append, List.length_singleton, ← HNL.out]
         unfold strs at h ⊢
         rw [List.map_append]
         exact h
    · have e1 : ((s[i].toNat : Int) == (cv : Int)) = false := by
       rw [beq_eq_false_iff_ne, HCV.out]
       intro e
       exact hc (UInt8.toNat_inj.1 (by omega))
      have HC := Lib.hid hc
      clear hc hnl
      go_wp2_with fail
      go_roundg (s.size - (i + 1))
      case measure => omega
      case rel =>
       refine ⟨i + 1, f, ls, by omega, by go_num, rfl, by omega, ?_, hown, hb⟩
       obtain ⟨bs, k1, k2⟩ := hl.out
       refine ⟨bs, k1, ?_⟩
       have h3 : f ≤ ((bl s).take i).length := by rw [List.length_take, bl_len]; omega
       rw [hs3.out, cutG_snoc_ne HC.out k2, List.drop_append_of_le_length h3]
  · obtain rfl : i = s.size := by omega
    have i2 : (f : Int) ≤ (s.size : Int) := by omega
    have ho2 := hown.out
    rw [← hnl] at ho2
    have HO2 := Lib.hid ho2
    clear hown ho2 hnl
    go_wp2_with (at_builtin; refine wpList_append_own_at _ rfl _ _ 51 rfl M 9 iS (.string ⟨#[]⟩) 1 16 Tryz.underlying51 hiS hiS0 hiS1 hiS2 rfl (by decide) _ nl (strs ls) rfl (HO2.out.alloc _) ⟨wr.heap.size, 0, none⟩ 1 1 [.string (s.extract f s.size)] rfl rfl (news1 _ _ _ _ rfl) (by simp [Value.oneCell']) (by unfold maxLen; omega) (by omega) (by simp; omega) ?_; intro v' w1 hown' hgrow _ hat2)
    obtain ⟨A', k', rfl, hrA⟩ := owned_slice hown'
    have HL := Lib.hid (Below.app hb.out hmz HO2.out hgrow)
    obtain ⟨bs, k1, k2⟩ := hl.out
    rw [List.take_of_length_le (by rw [bl_len]; exact Nat.le_refl _)] at k2
    have hall : strs ls ++ [Value.string (s.extract f s.size)] = strs ((cutG c 0 (bl s)).map lb) := by
     rw [k2, List.map_append, ← k1, List.map_cons, List.map_nil]
     have e : lb ((bl s).drop f) = s.extract f s.size := by
      have h1 := ext_lb s f s.size
      rw [List.take_of_length_le (by rw [bl_len]; exact Nat.le_refl _)] at h1
      exact h1.symm
     rw [e]
     unfold strs
     rw [List.map_append]; rfl
    have hlen : nl + 1 = (cutG c 0 (bl s)).length := by
     rw [k2, List.length_append, List.length_singleton, HNL.out, k1, List.length_map]
    rw [hall] at hrA
    have HRA := Lib.hid hrA; have HLE := Lib.hid hlen
    clear hown' hgrow hat2 hall hrA hlen k1 k2
    go_wp2_with fail
    go_ret
    exact ⟨A', k', by rw [← HLE.out]; rfl, HRA.out, HM.out ▸ HL.out⟩

theorem Rd.far {W : World} {A : Option Addr} {vs : List Value} {g : Nat} (h : Rd W A vs) (hA : ∀ b off, A = some ⟨b, off, none⟩ → b ≠ g) (i : Nat) (u : Value) : Rd (W.setCell ⟨g, i, none⟩ u) A vs := by
 intro j v hv
 obtain ⟨b, off, h1, h2⟩ := h j v hv
 exact ⟨b, off, h1, (World.cell?_setCell_other W _ _ u (fun e => hA b off h1 (by cases e; rfl))).trans h2⟩
end Go.Proofs.YtaknlhepgeiekaaGreatDoor
namespace Go.Proofs.YtaknlhepgeiekaaGreatDoor
set_option linter.all false
open Go.RowKit Go.Lib Go.Fl
theorem lineB_bl (ws : List ByteArray) : bl (lineB ws) = Lib.join (ws.map bl) [32] ++ [10] := lineB_list ws
theorem suffix_snoc (l : List UInt8) (c : UInt8) : Lib.hasSuffix (l ++ [c]) [c] = true := by
 unfold Lib.hasSuffix
 rw [List.isSuffixOf_iff_suffix]
 exact List.suffix_append l [c]
theorem trim_snoc (l : List UInt8) (c : UInt8) : Lib.trimSuffix (l ++ [c]) [c] = l := by
 unfold Lib.trimSuffix
 rw [suffix_snoc, if_pos rfl]
 simp
theorem ended_snoc {l : ByteArray} {t : List UInt8} (h : bl l = t ++ [10]) : endedL l = true ∧ textL l = lb t := by
 unfold endedL textL
 have h2 : l.data.toList = t ++ [10] := h
 rw [h2, suffix_snoc, trim_snoc]
 exact ⟨rfl, rfl⟩
theorem ended_is {l : ByteArray} (h : endedL l = true) : bl l = bl (textL l) ++ [10] := by
 unfold endedL Lib.hasSuffix at h
 rw [List.isSuffixOf_iff_suffix] at h
 obtain ⟨t, ht⟩ := h
 have h2 : bl l = t ++ [10] := ht.symm
 rw [(ended_snoc h2).2, bl_lb, h2]
theorem line_words {ws : List ByteArray} (h0 : ws ≠ []) (h : ∀ w ∈ ws, (32 : UInt8) ∉ bl w) : endedL (lineB ws) = true ∧ wordsL (textL (lineB ws)) = ws := by
 obtain ⟨h1, h2⟩ := ended_snoc (lineB_bl ws)
 refine ⟨h1, ?_⟩
 rw [h2, wordsL_cut, bl_lb, cutG_of_join (by simpa using h0) (fun w hw => by obtain ⟨v, hv, rfl⟩ := List.mem_map.1 hw; exact h v hv), List.map_map]
 have e2 : (lb ∘ bl) = id := funext lb_bl
 rw [e2, List.map_id]
theorem lastE_map {l : List (List UInt8)} {a : List UInt8} : ((l ++ [a]).map lb).getLastD ⟨#[]⟩ = lb a := by simp
theorem emp_lb (a : List UInt8) : (lb a).toList.isEmpty = a.isEmpty := by rw [ByteArray.toList_eq]; rfl
theorem linesL_of {ls : List (List UInt8)} (h : ∀ l ∈ ls, (10 : UInt8) ∉ l) {s : ByteArray} (hs : bl s = ls.flatMap fun l => l ++ [10]) : linesL s = ls.map fun l => lb (l ++ [10]) := by
 have hA : linesA s = ((ls.map fun l => l ++ [10]) ++ [[]]).map lb := by rw [linesA_cut, hs, cutG_lines h]
 have hE : lastE s = true := by unfold lastE; rw [hA, lastE_map, emp_lb]; rfl
 unfold linesL
 rw [hE, cond_true, hA, List.map_append, List.map_cons, List.map_nil, List.dropLast_concat, List.map_map]
 rfl
theorem cutG_lines2 {c : UInt8} {a : List UInt8} (ha : c ∉ a) : ∀ {ls : List (List UInt8)}, (∀ l ∈ ls, c ∉ l) → cutG c 1 ((ls.flatMap fun l => l ++ [c]) ++ a) = (ls.map fun l => l ++ [c]) ++ [a]
 | [], _ => cutG_no ha
 | l :: ls, h => by
   have e : ((l :: ls).flatMap fun l => l ++ [c]) ++ a = l ++ c :: ((ls.flatMap fun l => l ++ [c]) ++ a) := by simp
   rw [e, cutG_app _ (h l List.mem_cons_self), cutG_lines2 ha fun x hx => h x (List.mem_cons_of_mem _ hx)]
   rfl
theorem linesL_cut {ls : List (List UInt8)} {a : List UInt8} (h : ∀ l ∈ ls, (10 : UInt8) ∉ l) (ha : (10 : UInt8) ∉ a) (h0 : a ≠ []) {s : ByteArray} (hs : bl s = (ls.flatMap fun l => l ++ [10]) ++ a) : linesL s = (ls.map fun l => lb (l ++ [10])) ++ [lb a] := by
 have hA : linesA s = ((ls.map fun l => l ++ [10]) ++ [a]).map lb := by rw [linesA_cut, hs, cutG_lines2 ha h]
 have hE : lastE s = false := by
  unfold lastE; rw [hA, lastE_map, emp_lb]
  cases a with
  | nil => exact absurd rfl h0
  | cons x a => rfl
 unfold linesL
 rw [hE, cond_false, hA, List.map_append, List.map_cons, List.map_nil, List.map_map]
 rfl
theorem itoaB_no {n : Int} {c : UInt8} (hc : c.toNat < 45) : c ∉ bl (itoaB n) := itoa_no hc
theorem countB {w : ByteArray} (h : countOk w.data.toList = true) : itoaB (countV w.data.toList) = w := by
 have := count_itoa h
 show lb (itoa _) = w
 rw [this]; exact lb_bl w
end Go.Proofs.YtaknlhepgeiekaaGreatDoor
namespace Go.Proofs.YtaknlhepgeiekaaGreatDoor
set_option linter.all false
open Go.RowKit Go.Fl
theorem piece_words {p : List UInt8} (h : (10 : UInt8) ∉ p) : endedL (lb (p ++ [10])) = true ∧ wordsL (textL (lb (p ++ [10]))) = (cutG 32 0 p).map lb := by
 obtain ⟨h1, h2⟩ := ended_snoc (l := lb (p ++ [10])) (t := p) rfl
 exact ⟨h1, by rw [h2, wordsL_cut, bl_lb]⟩
end Go.Proofs.YtaknlhepgeiekaaGreatDoor
namespace Go.Proofs.YtaknlhepgeiekaaGreatDoor
set_option linter.all false
open Go.RowKit Go.Lib Go.Fl
theorem line_lf {ws : List ByteArray} (h : ∀ w ∈ ws, (10 : UInt8) ∉ bl w) : ∃ t : List UInt8, bl (lineB ws) = t ++ [10] ∧ (10 : UInt8) ∉ t := by
 refine ⟨_, lineB_bl ws, ?_⟩
 have : ∀ vs : List (List UInt8), (∀ v ∈ vs, (10 : UInt8) ∉ v) → (10 : UInt8) ∉ Lib.join vs [32] := by
  intro vs
  induction vs with
  | nil => intro _; simp [Lib.join]
  | cons a r ih =>
    intro hv
    cases r with
    | nil =>
      have e : Lib.join [a] [32] = a := by simp [Lib.join]
      rw [e]; exact hv a List.mem_cons_self
    | cons b r =>
      rw [join_cons2]
      intro hm
      rcases List.mem_append.1 hm with h1 | h1
      · rcases List.mem_append.1 h1 with h2 | h2
        · exact hv a List.mem_cons_self h2
        · simp at h2
      · exact ih (fun v hv2 => hv v (List.mem_cons_of_mem _ hv2)) h1
 refine this _ fun v hv => ?_
 obtain ⟨w, hw, rfl⟩ := List.mem_map.1 hv
 exact h w hw
end Go.Proofs.YtaknlhepgeiekaaGreatDoor
