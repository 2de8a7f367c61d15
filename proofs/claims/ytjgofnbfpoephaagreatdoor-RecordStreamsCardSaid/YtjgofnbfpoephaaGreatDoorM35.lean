/- Contracts: the lines of a string. -/
import Derived.Test.YtjgofnbfpoephaaGreatDoorM34
import Derived.Lib.SplitLaws
namespace Go.Proofs.YtjgofnbfpoephaaGreatDoor
set_option linter.all false
open Go.RowKit Go.Fl
set_option linter.unusedVariables false
set_option linter.unusedSimpArgs false

/-- what the search asks of memory -/
def Mx (w : World) : Prop := ∃ m, w.cell? ⟨3, 0, none⟩ = some (.int .i64 m)
theorem Mx.old {w w' : World} (h : Mx w) (hb : Below w.heap.size w w') : Mx w' := by
  obtain ⟨m, hm⟩ := h
  exact ⟨m, (hb.cell (World.block_lt_of_cell? w _ hm)).trans hm⟩
def lf : ByteArray := ⟨#[10]⟩
def sp : ByteArray := ⟨#[32]⟩
def linesA (s : ByteArray) : List ByteArray := Lib.splitB lf 1 (Lib.countB s lf) s
def wordsL (s : ByteArray) : List ByteArray := Lib.splitB sp 0 (Lib.countB s sp) s
theorem linesA_length (s : ByteArray) : (linesA s).length = Lib.countB s lf + 1 := Lib.splitB_all lf (by decide) 1 _ s rfl
theorem wordsL_length (s : ByteArray) : (wordsL s).length = Lib.countB s sp + 1 := Lib.splitB_all sp (by decide) 0 _ s rfl
theorem linesA_le (s : ByteArray) : (linesA s).length ≤ s.size + 1 := by
  rw [linesA_length]; have := Lib.countB_le lf (by decide) _ s (Nat.le_refl _); omega
theorem wordsL_le (s : ByteArray) : (wordsL s).length ≤ s.size + 1 := by
  rw [wordsL_length]; have := Lib.countB_le sp (by decide) _ s (Nat.le_refl _); omega
theorem cellsOf_full (l : List ByteArray) : Lib.cellsOf l l.length = (strs l).toArray := by simp [Lib.cellsOf, strs]

theorem split_any (s : ByteArray) (w : World) (hs : s.size ≤ 100000) (hm : Mx w) : Calls Tryz.prog 187 #[.string s, .string ⟨#[32]⟩] w fun e w' => e = .returned (.slice (some ⟨w.heap.size, 0, none⟩) (wordsL s).length (wordsL s).length) ∧ w' = w.alloc (.cells (strs (wordsL s)).toArray 9) := by
  obtain ⟨m, hm⟩ := hm
  have := Tryz.strings_Split s sp m w (by omega) hm (by decide)
  rw [wordsL_length]
  exact this
set_option maxHeartbeats 400000 in
theorem splitAfter_any (s : ByteArray) (w : World) (hs : s.size ≤ 100000) (hm : Mx w) : Calls Tryz.prog 197 #[.string s, .string ⟨#[10]⟩] w fun e w' => e = .returned (.slice (some ⟨w.heap.size, 0, none⟩) (linesA s).length (linesA s).length) ∧ w' = w.alloc (.cells (strs (linesA s)).toArray 9) := by
  obtain ⟨m, hm⟩ := hm
  have HG : Hid (Calls Tryz.prog 199 #[.string s, .string ⟨#[10]⟩, .int .i64 1, .int .i64 (-1)] w fun e w' => e = .returned (.slice (some ⟨w.heap.size, 0, none⟩) (linesA s).length (linesA s).length) ∧ w' = w.alloc (.cells (strs (linesA s)).toArray 9)) := by
    have hle := Lib.countB_le lf (by decide) _ s (Nat.le_refl _)
    have := Tryz.strings_genSplit s lf 1 (-1) (Lib.countB s lf + 1) m w (by omega) hm (by decide) (by decide) (by decide) (by decide) (by rw [if_pos (by decide)]; omega)
    rw [Nat.add_sub_cancel] at this
    rw [← linesA_length, show Lib.splitB lf 1 (Lib.countB s lf) s = linesA s from rfl, cellsOf_full] at this
    exact this
  clear hm
  go_enter Tryz.func197, Tryz.ntmps197
  go_wp2_with fail
  refine HG.out.mono ?_
  rintro e w1 ⟨rfl, rfl⟩
  go_wp2
  go_ret
  exact ⟨rfl, rfl⟩

/-- the lines of a string, with their line feeds -/
def lastE (s : ByteArray) : Bool := ((linesA s).getLastD ⟨#[]⟩).toList.isEmpty
def linesL (s : ByteArray) : List ByteArray := bif lastE s then (linesA s).dropLast else linesA s
set_option maxRecDepth 100000 in
set_option maxHeartbeats 1000000 in
theorem linesOf_any (s : ByteArray) (w : World) (hs : s.size ≤ 100000) (hm : Mx w) : Calls Tryz.prog 185 #[.string s] w fun e w' => ∃ c, e = .returned (.slice (some ⟨w.heap.size, 0, none⟩) (linesL s).length c) ∧ (linesL s).length ≤ c ∧ Row w' w.heap.size 9 (strs (linesA s)) ∧ Below w.heap.size w w' := by
  have HS := Lib.hid (splitAfter_any s w hs hm)
  have hl := linesA_length s
  obtain ⟨L, hL⟩ : ∃ L, L = linesA s := ⟨_, rfl⟩
  have hle : L.length ≤ 100001 := by rw [hL]; have := linesA_le s; omega
  obtain ⟨n, hn⟩ : ∃ n, L.length = n + 1 := ⟨_, by rw [hL]; exact hl⟩
  have hne : L ≠ [] := by intro h; rw [h] at hn; cases hn
  obtain ⟨la, hla⟩ : ∃ la, la = L.getLast hne := ⟨_, rfl⟩
  have hgl : (linesA s).getLastD ⟨#[]⟩ = la := by rw [← hL, hla, List.getLastD_eq_getLast?, List.getLast?_eq_some_getLast hne]; rfl
  have hla2 : L[n]? = some la := by rw [hla, List.getLast_eq_getElem, ← List.getElem?_eq_getElem]; congr 1; omega
  have HLE : Hid (lastE s = la.toList.isEmpty) := by unfold Hid lastE; rw [hgl]
  have R0 := Row.new w 9 (strs L)
  have HR0 := Lib.hid R0
  have cl : (w.alloc (.cells (strs L).toArray 9)).cell? ⟨w.heap.size, n, none⟩ = some (.string la) := by rw [R0.cell]; simp [strs, hla2]
  rw [← hL, hn] at HS
  have HLL : Hid (linesL s = bif la.toList.isEmpty then L.dropLast else L) := by unfold Hid linesL; rw [HLE.out, hL]
  have hdl : L.dropLast.length = n := by simp [hn]
  have hdt : L.dropLast = L.take n := by rw [List.dropLast_eq_take, hn]; rfl
  have HLe := Lib.hid hL
  clear hl hla hgl hla2 hm R0 HLE hL
  have hsl := fun W => slice_to (P := Tryz.prog) 120 (by kernel_rfl) 1 (fun W => by kernel_rfl) (some ⟨w.heap.size, 0, none⟩) (n + 1) (n + 1) (n : Int) (by omega) (by omega) W
  cases he : la.toList.isEmpty
  · go_enter Tryz.func185, Tryz.ntmps185
    go_wp2_with fail
    refine HS.out.mono ?_
    rintro e w1 ⟨rfl, rfl⟩
    go_wp2
    go_ret
    rw [he] at HLL
    exact ⟨_, by rw [HLL.out, cond_false, hn]; rfl, by rw [HLL.out, cond_false, hn]; exact Nat.le_refl _, by rw [← HLe.out]; exact HR0.out, (Below.refl _ _).alloc (Nat.le_refl _) _⟩
  · go_enter Tryz.func185, Tryz.ntmps185
    go_wp2_with fail
    refine HS.out.mono ?_
    rintro e w1 ⟨rfl, rfl⟩
    go_wp2
    go_ret
    rw [he] at HLL
    exact ⟨_, by rw [HLL.out, cond_true, hdl]; rfl, by rw [HLL.out, cond_true, hdl]; omega, by rw [← HLe.out]; exact HR0.out, (Below.refl _ _).alloc (Nat.le_refl _) _⟩

theorem linesL_get {s : ByteArray} {j : Nat} {x : ByteArray} (h : (linesL s)[j]? = some x) : (linesA s)[j]? = some x := by
  unfold linesL at h
  cases hl : lastE s
  · rw [hl] at h; exact h
  · rw [hl, cond_true, List.getElem?_dropLast] at h
    split at h
    · exact h
    · cases h
theorem linesL_le (s : ByteArray) : (linesL s).length ≤ s.size + 1 := by
  have := linesA_le s
  unfold linesL
  cases lastE s <;> simp <;> omega
theorem splitB_small (sep : ByteArray) (save : Nat) : ∀ (k : Nat) (s : ByteArray), ∀ x ∈ Lib.splitB sep save k s, x.size ≤ s.size
  | 0, s, x, hx => by
    rw [Lib.splitB_zero] at hx
    simp at hx; rw [hx]; exact Nat.le_refl _
  | k + 1, s, x, hx => by
    unfold Lib.splitB at hx
    split at hx
    · simp at hx; rw [hx]; exact Nat.le_refl _
    · rcases List.mem_cons.1 hx with rfl | hx
      · rw [ByteArray.size_extract]; omega
      · have := splitB_small sep save k _ x hx
        rw [ByteArray.size_extract] at this; omega
theorem linesL_small {s : ByteArray} {x : ByteArray} (h : x ∈ linesL s) : x.size ≤ s.size := by
  obtain ⟨j, hj, rfl⟩ := List.getElem_of_mem h
  have := linesL_get (List.getElem?_eq_getElem hj)
  exact splitB_small lf 1 _ s _ (List.mem_of_getElem? this)
/-- a line without its line feed, and whether it has one -/
def textL (l : ByteArray) : ByteArray := ⟨(Lib.trimSuffix l.data.toList [10]).toArray⟩
def endedL (l : ByteArray) : Bool := Lib.hasSuffix l.data.toList [10]
theorem textL_small (l : ByteArray) : (textL l).size ≤ l.size := by
  unfold textL Lib.trimSuffix
  have hx : l.data.toList.length = l.size := Array.length_toList
  split
  · show (List.toArray _).size ≤ _
    rw [List.size_toArray, List.length_take]; omega
  · exact Nat.le_of_eq hx
theorem cutSuffix_any (l : ByteArray) (w : World) (hs : l.size ≤ 100000) : Calls Tryz.prog 186 #[.string l, .string ⟨#[10]⟩] w fun e w' => e = .returned (.tuple #[.string (textL l), .bool (endedL l)]) ∧ w' = w := Tryz.strings_CutSuffix l lf w (by omega)

/-- the recording in block R as read so far -/
def RcI (w0 : World) (R : Nat) (S : PaS) (W : World) : Prop :=
  w0.heap.size ≤ R ∧ ∃ vs vm, Row W R 98 (paV S vs vm) ∧ W.ownsRow w0.heap.size 37 1 vs S.2.2.1.length (flts S.2.2.1) ∧ W.ownsRow w0.heap.size 158 2 vm S.2.2.2.length (markC S.2.2.2) ∧ Below w0.heap.size w0 W
theorem RcI.old {w0 : World} {R : Nat} {S : PaS} {W W' : World} (h : RcI w0 R S W) (hb : Below W.heap.size W W') : RcI w0 R S W' := by
  obtain ⟨h1, vs, vm, h3, h4, h5, h7⟩ := h
  exact ⟨h1, vs, vm, h3.old hb, owns_below h4 hb, owns_below h5 hb, h7.trans (hb.mono h7.size)⟩
theorem PaI.rc {w0 : World} {lb : Nat} {L : List ByteArray} {R g : Nat} {S : PaS} {ws : List ByteArray} {W : World} (h : PaI w0 lb L R g S ws W) : RcI w0 R S W ∧ Row W lb 9 (strs L) ∧ WdI lb L g ws W := by
  obtain ⟨h1, h2, vs, vm, h3, h4, h5, h6, h7⟩ := h
  exact ⟨⟨h1, vs, vm, h3, h4, h5, h7⟩, h6.1, h6⟩
theorem RcI.pa {w0 : World} {lb : Nat} {L : List ByteArray} {R g : Nat} {S : PaS} {ws : List ByteArray} {W : World} (h : RcI w0 R S W) (hg : w0.heap.size ≤ g) (hw : WdI lb L g ws W) : PaI w0 lb L R g S ws W := by
  obtain ⟨h1, vs, vm, h3, h4, h5, h7⟩ := h
  exact ⟨h1, hg, vs, vm, h3, h4, h5, hw, h7⟩
theorem RcI.below {w0 : World} {R : Nat} {S : PaS} {W : World} (h : RcI w0 R S W) : Below w0.heap.size w0 W := by
  obtain ⟨_, _, _, _, _, _, h7⟩ := h; exact h7

/-- one line: whether it is one, what is read then -/
def stepR (i : Int) (S : PaS) (l : ByteArray) : Bool × PaS := if endedL l then ((lineR i S (wordsL (textL l))).1 && (lineR i S (wordsL (textL l))).2.2.isEmpty, (lineR i S (wordsL (textL l))).2.1) else (false, S)
/-- all lines from an index on: the index of the first that is wrong, or how many there are; whether all are right; what is read -/
def linesGo : Nat → PaS → List ByteArray → Nat × Bool × PaS
  | i, S, [] => (i, true, S)
  | i, S, l :: r => if (stepR i S l).1 then linesGo (i + 1) (stepR i S l).2 r else (i, false, (stepR i S l).2)
def zeroS : PaS := (0, 0, [], [])
set_option maxHeartbeats 400000 in
theorem parse1_any (w0 : World) (lb : Nat) (L : List ByteArray) (R g : Nat) (S : PaS) (ws : List ByteArray) (i : Int) (w : World) (h : PaI w0 lb L R g S ws w) (hm : ws.length ≤ 100000) (hms : S.2.2.1.length ≤ 100000) (hmm : S.2.2.2.length ≤ 100000) (hn : smallN ws) :
    Calls Tryz.prog 160 #[.int .i64 i, .pointer (some ⟨g, 0, none⟩), .pointer (some ⟨R, 0, none⟩)] w fun e w' => e = .returned (.bool (lineR i S ws).1) ∧ PaI w0 lb L R g (lineR i S ws).2.1 (lineR i S ws).2.2 w' := by
  have HR := Lib.hid (readLine_any w0 R g S ws i w h hm hms hmm hn)
  clear h hn
  go_enter Tryz.func160, Tryz.ntmps160
  go_wp2_with fail
  refine HR.out.mono ?_
  rintro e w1 ⟨rfl, h1⟩
  have H1 := Lib.hid h1
  clear h1
  go_wp2
  go_ret
  exact ⟨rfl, H1.out⟩
end Go.Proofs.YtjgofnbfpoephaaGreatDoor
