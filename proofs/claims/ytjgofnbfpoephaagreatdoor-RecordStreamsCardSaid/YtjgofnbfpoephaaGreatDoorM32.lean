/- Contracts: a recording is printed. -/
import Derived.Test.YtjgofnbfpoephaaGreatDoorM29
import Derived.Test.YtjgofnbfpoephaaGreatDoorM18
namespace Go.Proofs.YtjgofnbfpoephaaGreatDoor
set_option linter.all false
open Go.RowKit Go.Fl
set_option linter.unusedVariables false
set_option linter.unusedSimpArgs false

theorem firstI_five {a b c d e : Int} (h : firstI [a, b, c, d, e] = 0) : a = 0 ∧ b = 0 ∧ c = 0 ∧ d = 0 ∧ e = 0 := by
  have := firstI_all h
  simpa using this
theorem firstI_three {a b c : Int} (h : firstI [a, b, c] = 0) : a = 0 ∧ b = 0 ∧ c = 0 := by
  have := firstI_all h
  simpa using this
theorem whenI_zero {b : Bool} {k : Int} (hk : k ≠ 0) (h : whenI b k = 0) : b = false := by
  cases b
  · rfl
  · exact absurd h hk
/-- what a recording without an error is like -/
structure GoodR (st sp : Int) (xs : List Nat) (ms : List (Int × ByteArray)) : Prop where
  start : 0 ≤ st ∧ st ≤ 100000000
  step : 1 ≤ sp ∧ sp ≤ 1000
  many : xs.length ≤ 4096
  samp : ∀ x ∈ xs, sampI x = 0
  marks : ms.length ≤ 16
  mark : ∀ p ∈ ms, (0 ≤ p.1 ∧ p.1 < xs.length) ∧ nameL p.2.data.toList = true
theorem goodR_of {st sp : Int} {xs : List Nat} {ms : List (Int × ByteArray)} (h : recI st sp xs ms = 0) : GoodR st sp xs ms := by
  obtain ⟨h1, h2, h3, -, h5⟩ := firstI_five h
  have h1 := whenI_zero (by decide) h1
  have h2 := whenI_zero (by decide) h2
  unfold rangeB at h1 h2
  have hx : xs.length ≤ 4096 ∧ ∀ x ∈ xs, sampI x = 0 := by
    unfold sampsI at h3
    split at h3
    · cases h3
    · exact ⟨by omega, fun x hx => firstI_all h3 _ (List.mem_map.2 ⟨x, hx, rfl⟩)⟩
  have hm : ms.length ≤ 16 ∧ ∀ e ∈ errL xs.length ms, e = 0 := by
    unfold marksI at h5
    split at h5
    · cases h5
    · exact ⟨by omega, firstI_all h5⟩
  refine ⟨by simp at h1; omega, by simp at h2; omega, hx.1, hx.2, hm.1, fun p hp => ?_⟩
  obtain ⟨k, hk, rfl⟩ := List.getElem_of_mem hp
  have he : errAt xs.length ms k = 0 := hm.2 _ (List.mem_map.2 ⟨k, by simp [hk], rfl⟩)
  unfold errAt at he
  rw [show ms.getD k (0, ByteArray.empty) = ms[k] by rw [List.getD_eq_getElem?_getD, List.getElem?_eq_getElem hk]; rfl] at he
  obtain ⟨a1, a2, -⟩ := firstI_three he
  have a1 := whenI_zero (by decide) a1
  have a2 := whenI_zero (by decide) a2
  refine ⟨?_, by simpa using a2⟩
  simp at a1; omega

def wRec : ByteArray := ⟨#[114, 101, 99, 111, 114, 100, 105, 110, 103]⟩
def wMark : ByteArray := ⟨#[109, 97, 114, 107]⟩
def wSamp : ByteArray := ⟨#[115, 97, 109, 112, 108, 101]⟩
def markB (p : Int × ByteArray) : ByteArray := lineB [wMark, itoaB p.1, p.2]
def sampB (x : Nat) : ByteArray := numLineB wSamp [unitI x]
def flatC (l : List ByteArray) : List UInt8 := l.flatMap fun s => s.data.toList
/-- the lines of a recording -/
def printLs (st sp : Int) (xs : List Nat) (ms : List (Int × ByteArray)) : List ByteArray := numLineB wRec [st, sp] :: (ms.map markB ++ xs.map sampB)
def printL (st sp : Int) (xs : List Nat) (ms : List (Int × ByteArray)) : List UInt8 := flatC (printLs st sp xs ms)
theorem flatC_len (l : List ByteArray) (k : Nat) (h : ∀ x ∈ l, x.size ≤ k) : (flatC l).length ≤ l.length * k := by
  induction l with
  | nil => simp [flatC]
  | cons x l ih =>
    have h1 := h x (by simp)
    have h2 := ih (fun y hy => h y (by simp [hy]))
    have hx : x.data.toList.length = x.size := Array.length_toList
    unfold flatC at *
    rw [List.flatMap_cons, List.length_append, List.length_cons, Nat.succ_mul, hx]
    omega
theorem markB_size {p : Int × ByteArray} {n : Nat} (h : 0 ≤ p.1 ∧ p.1 < n) (hn : n ≤ 4096) (hp : nameL p.2.data.toList = true) : (markB p).size ≤ 100 := by
  have h24 : p.2.size ≤ 24 := by
    unfold nameL at hp
    simp only [Bool.and_eq_true, decide_eq_true_eq] at hp
    have hx : p.2.data.toList.length = p.2.size := Array.length_toList
    omega
  have h1 := numeral_len p.1 (by omega)
  have h2 := lineL_len wMark [itoaB p.1, p.2] 24 (by intro x hx; simp at hx; rcases hx with rfl | rfl <;> omega)
  have h3 : wMark.size = 4 := rfl
  unfold markB
  rw [lineB_size]
  simp only [List.length_cons, List.length_nil] at h2
  omega
theorem numLineB_size (wd : ByteArray) (l : List Int) (hs : ∀ x ∈ l, -9223372036854775808 ≤ x ∧ x ≤ 9223372036854775807) : (numLineB wd l).size ≤ wd.size + l.length * 22 + 1 := by
  unfold numLineB; rw [lineB_size]; exact numLine_len wd l hs
theorem unit_range {x : Nat} (h : sampI x = 0) : -9223372036854775808 ≤ unitI x ∧ unitI x ≤ 9223372036854775807 := by
  have := unitI_bd2 h; omega
theorem sampB_size {x : Nat} (h : sampI x = 0) : (sampB x).size ≤ 100 := by
  have := numLineB_size wSamp [unitI x] (by intro y hy; simp at hy; subst hy; exact unit_range h)
  have h3 : wSamp.size = 6 := rfl
  unfold sampB
  simp only [List.length_cons, List.length_nil] at this
  omega
def cellsL (l : List ByteArray) : List Value := Lib.byteCells (flatC l)
theorem cellsL_snoc (l : List ByteArray) (s : ByteArray) : cellsL (l ++ [s]) = cellsL l ++ Lib.strCells s := by
  simp [cellsL, flatC, Lib.byteCells, Lib.strCells]
theorem cellsL_len (l : List ByteArray) : (cellsL l).length = (flatC l).length := by simp [cellsL, Lib.byteCells]

def printRes (P : List UInt8) : Ending := if P.length ≤ 4096 then .returned (.tuple #[.string ⟨P.toArray⟩, .int .i64 0]) else .returned (.tuple #[.string ⟨#[]⟩, .int .i64 26])
theorem head_line {st sp : Int} {xs : List Nat} {ms : List (Int × ByteArray)} (h : GoodR st sp xs ms) : ∃ l, Hid (l = numLineB wRec [st, sp]) ∧ l.size ≤ 100 := by
  refine ⟨_, rfl, ?_⟩
  have hst := h.start; have hsp := h.step
  have := numLineB_size wRec [st, sp] (by intro x hx; simp at hx; rcases hx with rfl | rfl <;> omega)
  have h3 : wRec.size = 9 := rfl
  simp only [List.length_cons, List.length_nil] at this
  omega
/-- what holds while the lines are written: the builder in block b, the recording behind the arguments' world -/
structure PrI (w : World) (b : Nat) (rv : List Value) (ls : List ByteArray) (W : World) : Prop where
  built : Lib.BuilderAtF 216 5 b b (.pointer (some ⟨b, 0, none⟩)) (cellsL ls) W
  below : Below w.heap.size w W
  row : Row W w.heap.size 98 rv
theorem PrI.old {w : World} {b : Nat} {rv : List Value} {ls : List ByteArray} {W W' : World} (h : PrI w b rv ls W) (hb : Below W.heap.size W W') : PrI w b rv ls W' := ⟨builder_old h.built hb, h.below.trans (hb.mono h.below.size), h.row.old hb⟩
theorem PrI.drew {w : World} {b : Nat} {rv : List Value} {ls : List ByteArray} {W : World} (h : PrI w b rv ls W) : PrI w b rv ls W.drew := ⟨h.built.drew, h.below.drew, h.row.drew⟩
theorem PrI.write {w : World} {b : Nat} {rv : List Value} {ls : List ByteArray} {W : World} {k : Nat} (l : ByteArray) (h : PrI w b rv ls W) (hwb : w.heap.size + 1 ≤ b) (hl : (flatC ls).length ≤ k) (hk : k + l.size ≤ 140737488355328) :
    Calls Tryz.prog 153 #[.pointer (some ⟨b, 0, none⟩), .string l] W fun e w' => e = .returned (.tuple #[.int .i64 l.size, .nilIface]) ∧ PrI w b rv (ls ++ [l]) w' ∧ Lib.OthersKept 5 (some b) W w' :=
  (writeString b b (cellsL ls) l W (.inr h.built) (by rw [cellsL_len]; omega) (by have := h.built.lt; omega)).mono fun e w' ⟨h1, h2, h3, h4⟩ => ⟨h1, ⟨by rw [cellsL_snoc]; exact h2, h.below.trans (h3.mono (by omega)), h.row.below h3 (by omega)⟩, h4⟩
theorem genP {p : World → Prop} {a1 a2 a3 a4 : World → Prop} (w : World) (h1 : a1 w) (h2 : a2 w) (h3 : a3 w) (h4 : a4 w) (h : ∀ W, a1 W → a2 W → a3 W → a4 W → p W) : p w := h w h1 h2 h3 h4
set_option maxRecDepth 100000 in
set_option maxHeartbeats 4000000 in
theorem print_ok (st sp : Int) (A B : Option Addr) (n c m d : Nat) (xs : List Nat) (ms : List (Int × ByteArray)) (w : World) (hT : It w) (hA : Rd w A (flts xs)) (hB : Rd w B (markC ms)) (hn : n = xs.length) (hm : m = ms.length) (h0 : recI st sp xs ms = 0) :
    Calls Tryz.prog 78 #[.agg #[.int .i64 st, .int .i64 sp, .slice A n c, .slice B m d]] w fun e w' => e = printRes (printL st sp xs ms) ∧ Below w.heap.size w w' := by
  have HG := Lib.hid (goodR_of h0)
  have hlx := HG.out.many
  have hlm := HG.out.marks
  subst hn; subst hm
  have HT : Hid (∀ W, Below w.heap.size w W → It W) := fun W h => hT.old h
  have HA : Hid (∀ W, Below w.heap.size w W → Rd W A (flts xs)) := fun W h => hA.below h
  have HB : Hid (∀ W, Below w.heap.size w W → Rd W B (markC ms)) := fun W h => hB.below h
  have HC : Hid (∀ W, Below w.heap.size w W → Calls Tryz.prog 57 #[.agg #[.int .i64 st, .int .i64 sp, .slice A xs.length c, .slice B ms.length d]] W fun e w' => e = .returned (.int .i64 0) ∧ Below W.heap.size W w') := fun W h => by
    have := checkRecording_any st sp A B xs.length c ms.length d xs ms W (hA.below h) (hB.below h) rfl rfl (by omega)
    rw [h0] at this; exact this
  have HR0 := Lib.hid (Row.new w 98 [.int .i64 st, .int .i64 sp, .slice A xs.length c, .slice B ms.length d])
  have HB0 := Lib.hid ((Below.refl w.heap.size w).alloc (Nat.le_refl _) (.cells #[.int .i64 st, .int .i64 sp, .slice A xs.length c, .slice B ms.length d] 98))
  have HL0 : Hid (∀ (W : World) (q : Nat) l, W.heap.size = q → l = numLineB wRec [st, sp] → Below w.heap.size w W → Calls Tryz.prog 154 #[.string wRec, .slice (some ⟨q, 0, none⟩) 2 2] (W.alloc (.cells #[.int .i64 st, .int .i64 sp] 3)) fun e w' => e = .returned (.string l) ∧ Below (W.alloc (.cells #[.int .i64 st, .int .i64 sp] 3)).heap.size (W.alloc (.cells #[.int .i64 st, .int .i64 sp] 3)) w') := fun W q l hq hl h => by
    subst hq
    have hst := HG.out.start; have hsp := HG.out.step
    have hal : Below W.heap.size W (W.alloc (.cells #[.int .i64 st, .int .i64 sp] 3)) := (Below.refl _ _).alloc (Nat.le_refl _) _
    rw [hl]
    exact numberLine_any _ 2 2 wRec [st, sp] _ (hT.old (h.trans (hal.mono h.size))) (Rd.row (Row.new W 3 [.int .i64 st, .int .i64 sp])) rfl (by simp) (by intro x hx; simp at hx; rcases hx with rfl | rfl <;> omega) (by decide)
  clear hT hA hB h0
  obtain ⟨P, hP⟩ : ∃ P, P = printL st sp xs ms := ⟨_, rfl⟩
  rw [← hP]
  have HPe := Lib.hid hP
  clear hP
  go_enter Tryz.func78, Tryz.ntmps78
  go_wp2_with fail
  refine (HC.out _ HB0.out).mono ?_
  rintro e w1 ⟨rfl, hb1⟩
  have HR1 := Lib.hid (HR0.out.old hb1)
  have HB1 := Lib.hid (HB0.out.trans (hb1.mono HB0.out.size))
  have hs1 := hb1.size
  rw [World.size_alloc] at hs1
  have HN : Hid (Lib.IsBuilderF 216 5 w1.heap.size w1.heap.size [] (w1.alloc (.cells #[.pointer none, .slice none 0 0] 216))) := Lib.IsBuilderF.of (Lib.fresh_isBuilder _ _ _)
  have HN2 : Hid (Below w.heap.size w (w1.alloc (.cells #[.pointer none, .slice none 0 0] 216))) := HB1.out.alloc (HB1.out.size) _
  have HR2 := Lib.hid (HR1.out.alloc (.cells #[.pointer none, .slice none 0 0] 216))
  obtain ⟨b, hb⟩ : ∃ b, b = w1.heap.size := ⟨_, rfl⟩
  have hbs : (w1.alloc (.cells #[.pointer none, .slice none 0 0] 216)).heap.size = b + 1 := by rw [World.size_alloc, hb]
  rw [← hb] at HN hs1
  clear HR0 HB0 hb1 HR1 HB1
  go_upto_region 5 with fail
  rw [← hb]
  clear hb
  refine genP (a1 := fun W => Hid (Lib.IsBuilderF 216 5 b b [] W)) (a2 := fun W => Hid (Below w.heap.size w W)) (a3 := fun W => Hid (Row W w.heap.size 98 [.int .i64 st, .int .i64 sp, .slice A xs.length c, .slice B ms.length d])) (a4 := fun W => W.heap.size = b + 1) (w1.alloc (.cells #[.pointer none, .slice none 0 0] 216)) HN HN2 HR2 hbs ?_
  clear HN HN2 HR2 hbs
  intro W HN HN2 HR2 hbs
  have q0 := HR2.out.cell 0; have q1 := HR2.out.cell 1
  simp only [List.getElem?_cons_succ, List.getElem?_cons_zero] at q0 q1
  go_wp2_with fail
  have hal : Below W.heap.size W (W.alloc (.cells #[.int .i64 st, .int .i64 sp] 3)) := (Below.refl _ _).alloc (Nat.le_refl _) _
  obtain ⟨l0, Hl0, hl0⟩ := head_line HG.out
  refine (HL0.out W _ l0 hbs Hl0.out HN2.out).mono ?_
  rintro e w2 ⟨rfl, hb2⟩
  have hW2 := hal.trans (hb2.mono (by simp))
  have hW2s := hW2.size
  go_wp2_with fail
  refine (writeString b b [] l0 w2 (isBuilder_old HN.out hW2) (by simp; omega) (by omega)).mono ?_
  rintro e w3 ⟨rfl, hn3, hb3, -⟩
  have hI : PrI w b [.int .i64 st, .int .i64 sp, .slice A xs.length c, .slice B ms.length d] [l0] w3 :=
    ⟨by simpa [cellsL, flatC, Lib.byteCells, Lib.strCells] using hn3, (HN2.out.trans (hW2.mono HN2.out.size)).trans (hb3.mono (by omega)), (HR2.out.old hW2).below hb3 (by omega)⟩
  have HI := Lib.hid hI
  clear hI hn3 hb3 hW2 hW2s hb2 q0 q1 hal HN HN2 HR2 HL0
  have q3 := HI.out.row.cell 3
  simp only [List.getElem?_cons_succ, List.getElem?_cons_zero] at q3
  go_wp2
  go_loopw [25] (fun i wr => ∃ k : Nat, k ≤ ms.length ∧ i = .int .i64 k ∧ Hid (PrI w b [.int .i64 st, .int .i64 sp, .slice A xs.length c, .slice B ms.length d] (l0 :: (ms.take k).map markB) wr)) (fun i _ => ms.length - (intOf i).toNat)
  case atStart => exact ⟨0, Nat.zero_le _, rfl, HI.out⟩
  case round =>
    obtain ⟨k, hk, rfl, HI⟩ := hrel
    by_cases hlt : k < ms.length
    · obtain ⟨bb, off, hAb, hc1, hc2⟩ := Rd.mark (HB.out _ HI.out.below) hlt
      subst hAb
      obtain ⟨ix, hix⟩ : ∃ ix, ix = ms[k].1 := ⟨_, rfl⟩
      obtain ⟨nm, hnm⟩ : ∃ nm, nm = ms[k].2 := ⟨_, rfl⟩
      rw [← hix] at hc1; rw [← hnm] at hc2
      have hks := List.take_succ_eq_append_getElem hlt
      obtain ⟨hmk, hmn⟩ := HG.out.mark _ (List.getElem_mem hlt)
      obtain ⟨ml, Hml, hml⟩ : ∃ l, Hid (l = markB (ix, nm)) ∧ l.size ≤ 100 := ⟨_, rfl, by rw [hix, hnm]; exact markB_size hmk hlx hmn⟩
      have Hks : Hid (l0 :: (ms.take (k + 1)).map markB = (l0 :: (ms.take k).map markB) ++ [ml]) := by
        unfold Hid; rw [hks, Hml.out, hix, hnm, List.map_append]; rfl
      have Hix : Hid (0 ≤ ix ∧ ix < xs.length) := by unfold Hid; rw [hix]; exact hmk
      have HLm : Hid (∀ (W : World), Calls Tryz.prog 155 #[.slice (some ⟨W.heap.size, 0, none⟩) 3 3] (W.alloc (.cells #[.string ⟨#[109, 97, 114, 107]⟩, .string (itoaB ix), .string nm] 9)) fun e w' => e = .returned (.string ml) ∧ Below (W.alloc (.cells #[.string ⟨#[109, 97, 114, 107]⟩, .string (itoaB ix), .string nm] 9)).heap.size (W.alloc (.cells #[.string ⟨#[109, 97, 114, 107]⟩, .string (itoaB ix), .string nm] 9)) w') := fun W => by
        have h5 : (lineL [wMark, itoaB ix, nm]).length ≤ 100 := by rw [← lineB_size]; have := hml; rw [Hml.out] at this; exact this
        have := line_any W.heap.size 3 [wMark, itoaB ix, nm] _ (Rd.row (Row.new W 9 [.string wMark, .string (itoaB ix), .string nm])) (by simp) (by simp) (by omega) (by simp)
        rw [Hml.out]; exact this
      have HFk : Hid ((flatC (l0 :: (ms.take k).map markB)).length ≤ 2000) := by
        unfold Hid
        refine Nat.le_trans (flatC_len _ 100 ?_) ?_
        · intro x hx
          rcases List.mem_cons.1 hx with rfl | hx
          · exact hl0
          · obtain ⟨p, hp, rfl⟩ := List.mem_map.1 hx
            obtain ⟨h1, h2⟩ := HG.out.mark _ (List.mem_of_mem_take hp)
            exact markB_size h1 hlx h2
        · simp; omega
      clear hks hmk hmn hix hnm
      obtain ⟨g, hg⟩ : ∃ g, g = wr.heap.size := ⟨_, rfl⟩
      have HG7 := Lib.hid hg
      have hnew1 : ∀ o : Obj, (wr.alloc o).heap.size = wr.heap.size + 1 := fun o => by simp
      have hgb : g ≠ b := by have := HI.out.built.lt; omega
      go_upto_region 9 with fail
      rw [← hg]
      clear hg hnew1
      refine genP (a1 := fun W => Hid (Row W g 158 [.int .i64 ix, .string nm])) (a2 := fun W => Hid (PrI w b [.int .i64 st, .int .i64 sp, .slice A xs.length c, .slice (some ⟨bb, off, none⟩) ms.length d] (l0 :: (ms.take k).map markB) W)) (a3 := fun _ => True) (a4 := fun _ => True) (wr.alloc (.cells #[.int .i64 ix, .string nm] 158)) (HG7.out ▸ Row.new _ _ _) (HI.out.old ((Below.refl _ _).alloc (Nat.le_refl _) _)) trivial trivial ?_
      intro W HRm HIW _ _
      have r0 := HRm.out.cell 0; have r1 := HRm.out.cell 1
      simp only [List.getElem?_cons_succ, List.getElem?_cons_zero] at r0 r1
      refine wp_region_held_drew (S := fun w' => w'.cell? ⟨g, 0, none⟩ = some (.int .i64 ix) ∧ w'.cell? ⟨g, 1, none⟩ = some (.string nm)) (by kernel_rfl) ?_ (fun hHeld => ?_)
      · exact ⟨r0, r1⟩
      refine wpAnyH_take (i := 0) (oi := ⟨some 29, _, _, _, _, _⟩) (v := ?_) rfl (by kernel_rfl) (by kernel_rfl) (by kernel_rfl) (fun _ _ _ h => h) (Or.inl ⟨by kernel_rfl, ?_⟩) hHeld ?_
      rotate_left
      · intro w1 hSw; (try dsimp only at hSw); go_simp <;> with_reducible rfl
      try simp only [Act.put, List.setIfInBounds_toArray, List.set_cons_zero, List.set_cons_succ]
      refine wpAnyH_take (i := 1) (oi := ⟨some 30, _, _, _, _, _⟩) (v := ?_) rfl (by kernel_rfl) (by kernel_rfl) (by kernel_rfl) (fun _ _ _ h => h) (Or.inl ⟨by kernel_rfl, ?_⟩) hHeld ?_
      rotate_left
      · intro w1 hSw; (try dsimp only at hSw); go_simp <;> with_reducible rfl
      try simp only [Act.put, List.setIfInBounds_toArray, List.set_cons_zero, List.set_cons_succ]
      refine wpAnyH_take (i := 3) (oi := ⟨some 32, _, _, _, _, _⟩) (v := ?_) rfl (by kernel_rfl) (by kernel_rfl) (by kernel_rfl) (fun _ _ _ h => h) (Or.inl ⟨by kernel_rfl, ?_⟩) hHeld ?_
      rotate_left
      · intro w1 hSw; (try dsimp only at hSw); go_simp <;> with_reducible rfl
      try simp only [Act.put, List.setIfInBounds_toArray, List.set_cons_zero, List.set_cons_succ]
      refine wpAnyH_take (i := 4) (oi := ⟨some 33, _, _, _, _, _⟩) (v := ?_) rfl (by kernel_rfl) (by kernel_rfl) (by kernel_rfl) (fun _ _ _ h => h) (Or.inl ⟨by kernel_rfl, ?_⟩) hHeld ?_
      rotate_left
      · intro w1 hSw; (try dsimp only at hSw); go_simp <;> with_reducible rfl
      try simp only [Act.put, List.setIfInBounds_toArray, List.set_cons_zero, List.set_cons_succ]
      refine wpAnyH_ready (rs := [2]) (by kernel_rfl) (by simp) ?_
      refine AllReadyH.cons rfl (fun K hK => ?_) AllReadyH.nil
      go_simp
      go_at_call 156
      refine (itoa_any _ _ (HT.out _ (HIW.out.below.drew)) (by have := Hix.out; omega)).mono ?_
      rintro e w5 ⟨rfl, hb5⟩
      have HI5 := Lib.hid (HIW.out.drew.old hb5)
      have HR5 := Lib.hid (HRm.out.drew.old hb5)
      clear hb5
      try go_simp
      refine hK.out _ _ ?_ (fun hHeld => ?_)
      · exact ⟨(HR5.out.cell 0).trans rfl, (HR5.out.cell 1).trans rfl⟩
      clear hK K
      try simp only [Act.put, List.setIfInBounds_toArray, List.set_cons_zero, List.set_cons_succ]
      refine wpAnyH_ready (rs := [5]) (by kernel_rfl) (by simp) ?_
      refine AllReadyH.cons rfl (fun K hK => ?_) AllReadyH.nil
      go_simp
      refine hK.out _ _ ?_ (fun hHeld => ?_)
      · exact ⟨((HR5.out.alloc _).cell 0).trans rfl, ((HR5.out.alloc _).cell 1).trans rfl⟩
      clear hK K
      try simp only [Act.put, List.setIfInBounds_toArray, List.set_cons_zero, List.set_cons_succ]
      refine wpAnyH_ready (rs := [6]) (by kernel_rfl) (by simp) ?_
      refine AllReadyH.cons rfl (fun K hK => ?_) AllReadyH.nil
      go_simp
      go_at_call 155
      refine (HLm.out w5).mono ?_
      rintro e w6 ⟨rfl, hb6⟩
      have HI6 := Lib.hid ((HI5.out.old ((Below.refl _ _).alloc (Nat.le_refl _) _)).old hb6)
      have HR6 := Lib.hid ((HR5.out.alloc _).old hb6)
      clear hb6
      try go_simp
      refine hK.out _ _ ?_ (fun hHeld => ?_)
      · exact ⟨(HR6.out.cell 0).trans rfl, (HR6.out.cell 1).trans rfl⟩
      clear hK K
      try simp only [Act.put, List.setIfInBounds_toArray, List.set_cons_zero, List.set_cons_succ]
      refine wpAnyH_ready (rs := [7]) (by kernel_rfl) (by simp) ?_
      refine AllReadyH.cons rfl (fun K hK => ?_) AllReadyH.nil
      go_simp
      go_at_call 153
      refine (HI6.out.write ml hs1 (k := 2000) HFk.out (by omega)).mono ?_
      rintro e w7 ⟨rfl, hI7, hk7⟩
      have HI7 := Lib.hid hI7
      have HR7 := Lib.hid (HR6.out.others hk7 hgb (by decide))
      clear hI7 hk7
      try go_simp
      refine hK.out _ _ ?_ (fun hHeld => ?_)
      · exact ⟨(HR7.out.cell 0).trans rfl, (HR7.out.cell 1).trans rfl⟩
      clear hK K
      try simp only [Act.put, List.setIfInBounds_toArray, List.set_cons_zero, List.set_cons_succ]
      refine wpAnyH_done (by kernel_rfl) ?_ _
      go_wp2
      go_roundw
      case rel => exact ⟨k + 1, by omega, by go_num, by rw [Hks.out]; exact HI7.out⟩
      case measure => simp [intOf]; omega
    · obtain rfl : k = ms.length := by omega
      have HI0 : Hid (PrI w b [.int .i64 st, .int .i64 sp, .slice A xs.length c, .slice B ms.length d] ((l0 :: ms.map markB) ++ (xs.take 0).map sampB) wr) := by
        have := HI.out; rw [List.take_length] at this; show PrI _ _ _ _ _; simpa using this
      have HF0 : Hid ((flatC (l0 :: ms.map markB)).length ≤ 2000) := by
        unfold Hid
        refine Nat.le_trans (flatC_len _ 100 ?_) ?_
        · intro x hx
          rcases List.mem_cons.1 hx with rfl | hx
          · exact hl0
          · obtain ⟨p, hp, rfl⟩ := List.mem_map.1 hx
            obtain ⟨h1, h2⟩ := HG.out.mark _ hp
            exact markB_size h1 hlx h2
        · simp; omega
      have q2 := HI0.out.row.cell 2
      simp only [List.getElem?_cons_succ, List.getElem?_cons_zero] at q2
      clear HI
      go_wp2
      clear q2 q3
      go_loopw [41] (fun i wr => ∃ k : Nat, k ≤ xs.length ∧ i = .int .i64 k ∧ Hid (PrI w b [.int .i64 st, .int .i64 sp, .slice A xs.length c, .slice B ms.length d] ((l0 :: ms.map markB) ++ (xs.take k).map sampB) wr)) (fun i _ => xs.length - (intOf i).toNat)
      case atStart => exact ⟨0, Nat.zero_le _, rfl, HI0.out⟩
      case round =>
        clear HI0
        skip
        obtain ⟨k, hk, rfl, HI⟩ := hrel
        by_cases hlt : k < xs.length
        · obtain ⟨bb, off, hAb, hc1⟩ := Rd.flt (HA.out _ HI.out.below) hlt
          subst hAb
          obtain ⟨x, hx⟩ : ∃ x, x = xs[k] := ⟨_, rfl⟩
          rw [← hx] at hc1
          have hks := List.take_succ_eq_append_getElem hlt
          have hsx := HG.out.samp _ (List.getElem_mem hlt)
          rw [← hx] at hsx
          obtain ⟨ml, Hml, hml⟩ : ∃ l, Hid (l = sampB x) ∧ l.size ≤ 100 := ⟨_, rfl, sampB_size hsx⟩
          have Hks : Hid ((l0 :: ms.map markB) ++ (xs.take (k + 1)).map sampB = ((l0 :: ms.map markB) ++ (xs.take k).map sampB) ++ [ml]) := by
            unfold Hid; rw [hks, Hml.out, hx, List.map_append, ← List.append_assoc]; rfl
          have Hx := Lib.hid hsx
          have HLs : Hid (∀ (W : World), Below w.heap.size w W → Calls Tryz.prog 154 #[.string wSamp, .slice (some ⟨W.heap.size, 0, none⟩) 1 1] (W.alloc (.cells #[.int .i64 (unitI x)] 3)) fun e w' => e = .returned (.string ml) ∧ Below (W.alloc (.cells #[.int .i64 (unitI x)] 3)).heap.size (W.alloc (.cells #[.int .i64 (unitI x)] 3)) w') := fun W h => by
            have hal : Below W.heap.size W (W.alloc (.cells #[.int .i64 (unitI x)] 3)) := (Below.refl _ _).alloc (Nat.le_refl _) _
            rw [Hml.out]
            exact numberLine_any _ 1 1 wSamp [unitI x] _ (HT.out _ (h.trans (hal.mono h.size))) (Rd.row (Row.new W 3 [.int .i64 (unitI x)])) rfl (by simp) (by intro y hy; simp at hy; subst hy; exact unit_range hsx) (by decide)
          have HFk : Hid ((flatC ((l0 :: ms.map markB) ++ (xs.take k).map sampB)).length ≤ 2000000) := by
            unfold Hid
            have h1 := HF0.out
            have h2 := flatC_len ((xs.take k).map sampB) 100 (by
              intro y hy
              obtain ⟨z, hz, rfl⟩ := List.mem_map.1 hy
              exact sampB_size (HG.out.samp _ (List.mem_of_mem_take hz)))
            have h3 : flatC ((l0 :: ms.map markB) ++ (xs.take k).map sampB) = flatC (l0 :: ms.map markB) ++ flatC ((xs.take k).map sampB) := by simp [flatC]
            rw [h3, List.length_append]
            simp only [List.length_map, List.length_take] at h2
            omega
          clear hks hsx hx
          go_wp2_with fail
          refine (unitOf_ok _ _ Hx.out).mono ?_
          rintro e w5 ⟨rfl, rfl⟩
          go_wp2_with fail
          refine (HLs.out _ HI.out.below).mono ?_
          rintro e w6 ⟨rfl, hb6⟩
          have HI6 := Lib.hid ((HI.out.old ((Below.refl _ _).alloc (Nat.le_refl _) _)).old hb6)
          clear hb6
          go_wp2_with fail
          refine (HI6.out.write ml hs1 (k := 2000000) HFk.out (by omega)).mono ?_
          rintro e w7 ⟨rfl, hI7, -⟩
          have HI7 := Lib.hid hI7
          clear hI7
          go_wp2
          go_roundw
          case rel => exact ⟨k + 1, by omega, by go_num, by rw [Hks.out]; exact HI7.out⟩
          case measure => simp [intOf]; omega
        · obtain rfl : k = xs.length := by omega
          have HI9 : Hid (Lib.BuilderAtF 216 5 b b (.pointer (some ⟨b, 0, none⟩)) (Lib.byteCells P) wr ∧ Below w.heap.size w wr) := by
            have h := HI.out
            rw [List.take_length] at h
            have e : cellsL ((l0 :: ms.map markB) ++ xs.map sampB) = Lib.byteCells P := by rw [HPe.out, printL, printLs, Hl0.out]; rfl
            exact ⟨by rw [← e]; exact h.built, h.below⟩
          have hlen : (Lib.byteCells P).length = P.length := by simp [Lib.byteCells]
          clear HI
          go_wp2_with fail
          refine (Tryz.Builder_Len_f b b (Lib.byteCells P) _ (.inr HI9.out.1)).mono ?_
          rintro e w5 ⟨rfl, rfl⟩
          rw [hlen]
          by_cases hbig : 4096 < P.length
          · have HP : Hid (printRes P = .returned (.tuple #[.string ⟨#[]⟩, .int .i64 26])) := by unfold Hid printRes; rw [if_neg (by omega)]
            go_wp2
            go_ret2
            exact ⟨HP.out.symm, HI9.out.2⟩
          · have HP : Hid (printRes P = .returned (.tuple #[.string ⟨P.toArray⟩, .int .i64 0])) := by unfold Hid printRes; rw [if_pos (by omega)]
            go_wp2_with fail
            refine (Tryz.Builder_String_any_f b b P _ (.inr HI9.out.1) (by have := HI9.out.1.lt; omega)).mono ?_
            rintro e w6 ⟨rfl, -, hb6⟩
            have HB6 := Lib.hid (HI9.out.2.trans (hb6.mono (by omega)))
            clear hb6
            go_wp2
            go_ret2
            exact ⟨HP.out.symm, HB6.out⟩
end Go.Proofs.YtjgofnbfpoephaaGreatDoor
