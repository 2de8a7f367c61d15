import Derived.Test.YtjdniebjhilooaaGreatDoorM13
import Derived.Test.YtjdniebjhilooaaGreatDoorM20
namespace Go.Proofs.YtjdniebjhilooaaGreatDoor
set_option linter.all false
open Go.RowKit Go.Fl
theorem firstI_five {a b c d e : Int} (h : firstI [a, b, c, d, e] = 0) : a = 0 ∧ b = 0 ∧ c = 0 ∧ d = 0 ∧ e = 0 := by
 have := firstI_all h
 simpa using this
theorem firstI_three {a b c : Int} (h : firstI [a, b, c] = 0) : a = 0 ∧ b = 0 ∧ c = 0 := by
 have := firstI_all h
 simpa using this
theorem whenI_zero {b : Bool} {k : Int} (hk : k ≠ 0) (h : whenI b k = 0) : b = false := by
 cases b
 · rfl
 · exact absurd h hk
structure GoodR (st sp : Int) (xs : List Nat) (ms : List (Int × ByteArray)) : Prop where
 start : 0 ≤ st ∧ st ≤ 100000000
 step : 1 ≤ sp ∧ sp ≤ 1000
 many : xs.length ≤ 4096
 samp : ∀ x ∈ xs, sampI x = 0
 marks : ms.length ≤ 16
 mark : ∀ p ∈ ms, (0 ≤ p.1 ∧ p.1 < xs.length) ∧ nameL p.2.data.toList = true
theorem goodR_of {st sp : Int} {xs : List Nat} {ms : List (Int × ByteArray)} (h : recI st sp xs ms = 0) : GoodR st sp xs ms := by
 obtain ⟨h1, h2, h3, -, h5⟩ := firstI_five h
 have h1 := whenI_zero (by decide) h1
 have h2 := whenI_zero (by decide) h2
 unfold rangeB at h1 h2
 have hx : xs.length ≤ 4096 ∧ ∀ x ∈ xs, sampI x = 0 := by
  unfold sampsI at h3
  split at h3
  · cases h3
  · exact ⟨by omega, fun x hx => firstI_all h3 _ (List.mem_map.2 ⟨x, hx, rfl⟩)⟩
 have hm : ms.length ≤ 16 ∧ ∀ e ∈ errL xs.length ms, e = 0 := by
  unfold marksI at h5
  split at h5
  · cases h5
  · exact ⟨by omega, firstI_all h5⟩
 refine ⟨by simp at h1; omega, by simp at h2; omega, hx.1, hx.2, hm.1, fun p hp => ?_⟩
 obtain ⟨k, hk, rfl⟩ := List.getElem_of_mem hp
 have he : errAt xs.length ms k = 0 := hm.2 _ (List.mem_map.2 ⟨k, by simp [hk], rfl⟩)
 unfold errAt at he
 rw [show ms.getD k (0, ByteArray.empty) = ms[k] by rw [List.getD_eq_getElem?_getD, List.getElem?_eq_getElem hk]; rfl] at he
 obtain ⟨a1, a2, -⟩ := firstI_three he
 have a1 := whenI_zero (by decide) a1
 have a2 := whenI_zero (by decide) a2
 refine ⟨?_, by simpa using a2⟩
 simp at a1; omega
def wRec : ByteArray := ⟨#[114, 101, 99, 111, 114, 100, 105, 110, 103]⟩
def wMark : ByteArray := ⟨#[109, 97, 114, 107]⟩
def wSamp : ByteArray := ⟨#[115, 97, 109, 112, 108, 101]⟩
def markB (p : Int × ByteArray) : ByteArray := lineB [wMark, itoaB p.1, p.2]
def sampB (x : Nat) : ByteArray := numLineB wSamp [unitI x]
def flatC (l : List ByteArray) : List UInt8 := l.flatMap fun s => s.data.toList
def printLs (st sp : Int) (xs : List Nat) (ms : List (Int × ByteArray)) : List ByteArray := numLineB wRec [st, sp] :: (ms.map markB ++ xs.map sampB)
def printL (st sp : Int) (xs : List Nat) (ms : List (Int × ByteArray)) : List UInt8 := flatC (printLs st sp xs ms)
theorem flatC_len (l : List ByteArray) (k : Nat) (h : ∀ x ∈ l, x.size ≤ k) : (flatC l).length ≤ l.length * k := by
 induction l with
 | nil => simp [flatC]
 | cons x l ih =>
   have h1 := h x (by simp)
   have h2 := ih (fun y hy => h y (by simp [hy]))
   have hx : x.data.toList.length = x.size := Array.length_toList
   unfold flatC at *
   rw [List.flatMap_cons, List.length_append, List.length_cons, Nat.succ_mul, hx]
   omega
theorem markB_size {p : Int × ByteArray} {n : Nat} (h : 0 ≤ p.1 ∧ p.1 < n) (hn : n ≤ 4096) (hp : nameL p.2.data.toList = true) : (markB p).size ≤ 100 := by
 have h24 : p.2.size ≤ 24 := by
  unfold nameL at hp
  simp only [Bool.and_eq_true, decide_eq_true_eq] at hp
  have hx : p.2.data.toList.length = p.2.size := Array.length_toList
  omega
 have h1 := numeral_len p.1 (by omega)
 have h2 := lineL_len wMark [itoaB p.1, p.2] 24 (by intro x hx; simp at hx; rcases hx with rfl | rfl <;> omega)
 have h3 : wMark.size = 4 := rfl
 unfold markB
 rw [lineB_size]
 simp only [List.length_cons, List.length_nil] at h2
 omega
theorem numLineB_size (wd : ByteArray) (l : List Int) (hs : ∀ x ∈ l, -9223372036854775808 ≤ x ∧ x ≤ 9223372036854775807) : (numLineB wd l).size ≤ wd.size + l.length * 22 + 1 := by
 unfold numLineB; rw [lineB_size]; exact numLine_len wd l hs
theorem unit_range {x : Nat} (h : sampI x = 0) : -9223372036854775808 ≤ unitI x ∧ unitI x ≤ 9223372036854775807 := by
 have := unitI_bd2 h; omega
theorem sampB_size {x : Nat} (h : sampI x = 0) : (sampB x).size ≤ 100 := by
 have := numLineB_size wSamp [unitI x] (by intro y hy; simp at hy; subst hy; exact unit_range h)
 have h3 : wSamp.size = 6 := rfl
 unfold sampB
 simp only [List.length_cons, List.length_nil] at this
 omega
def cellsL (l : List ByteArray) : List Value := Lib.byteCells (flatC l)
theorem cellsL_snoc (l : List ByteArray) (s : ByteArray) : cellsL (l ++ [s]) = cellsL l ++ Lib.strCells s := by
 simp [cellsL, flatC, Lib.byteCells, Lib.strCells]
theorem cellsL_len (l : List ByteArray) : (cellsL l).length = (flatC l).length := by simp [cellsL, Lib.byteCells]
def printRes (P : List UInt8) : Ending := if P.length ≤ 4096 then .returned (.tuple #[.string ⟨P.toArray⟩, .int .i64 0]) else .returned (.tuple #[.string ⟨#[]⟩, .int .i64 26])
theorem head_line {st sp : Int} {xs : List Nat} {ms : List (Int × ByteArray)} (h : GoodR st sp xs ms) : ∃ l, Hid (l = numLineB wRec [st, sp]) ∧ l.size ≤ 100 := by
 refine ⟨_, rfl, ?_⟩
 have hst := h.start; have hsp := h.step
 have := numLineB_size wRec [st, sp] (by intro x hx; simp at hx; rcases hx with rfl | rfl <;> omega)
 have h3 : wRec.size = 9 := rfl
 simp only [List.length_cons, List.length_nil] at this
 omega
structure PrI (w : World) (b : Nat) (rv : List Value) (ls : List ByteArray) (W : World) : Prop where
 built : Lib.BuilderAtF 122 5 b b (.pointer (some ⟨b, 0, none⟩)) (cellsL ls) W
 below : Below w.heap.size w W
 row : Row W w.heap.size 33 rv
theorem PrI.old {w : World} {b : Nat} {rv : List Value} {ls : List ByteArray} {W W' : World} (h : PrI w b rv ls W) (hb : Below W.heap.size W W') : PrI w b rv ls W' := ⟨builder_old h.built hb, h.below.trans (hb.mono h.below.size), h.row.old hb⟩
theorem PrI.drew {w : World} {b : Nat} {rv : List Value} {ls : List ByteArray} {W : World} (h : PrI w b rv ls W) : PrI w b rv ls W.drew := ⟨h.built.drew, h.below.drew, h.row.drew⟩
theorem PrI.write {w : World} {b : Nat} {rv : List Value} {ls : List ByteArray} {W : World} {k : Nat} (l : ByteArray) (h : PrI w b rv ls W) (hwb : w.heap.size + 1 ≤ b) (hl : (flatC ls).length ≤ k) (hk : k + l.size ≤ 140737488355328) :
 Calls Tryz.prog 46 #[.pointer (some ⟨b, 0, none⟩), .string l] W fun e w' => e = .returned (.tuple #[.int .i64 l.size, .nilIface]) ∧ PrI w b rv (ls ++ [l]) w' ∧ Lib.OthersKept 5 (some b) W w' :=
 (writeString b b (cellsL ls) l W (.inr h.built) (by rw [cellsL_len]; omega) (by have := h.built.lt; omega)).mono fun e w' ⟨h1, h2, h3, h4⟩ => ⟨h1, ⟨by rw [cellsL_snoc]; exact h2, h.below.trans (h3.mono (by omega)), h.row.below h3 (by omega)⟩, h4⟩
theorem genP {p : World → Prop} {a1 a2 a3 a4 : World → Prop} (w : World) (h1 : a1 w) (h2 : a2 w) (h3 : a3 w) (h4 : a4 w) (h : ∀ W, a1 W → a2 W → a3 W → a4 W → p W) : p w := h w h1 h2 h3 h4
set_option maxRecDepth 100000 in
set_option maxHeartbeats 4000000 in
theorem print_ok (st sp : Int) (A B : Option Addr) (n c m d : Nat) (xs : List Nat) (ms : List (Int × ByteArray)) (w : World) (hT : It w) (hA : Rd w A (flts xs)) (hB : Rd w B (markC ms)) (hn : n = xs.length) (hm : m = ms.length) (h0 : recI st sp xs ms = 0) :
 Calls Tryz.prog 9 #[.agg #[.int .i64 st, .int .i64 sp, .slice A n c, .slice B m d]] w fun e w' => e = printRes (printL st sp xs ms) ∧ Below w.heap.size w w' := by
 have HG := Lib.hid (goodR_of h0)
 have hlx := HG.out.many
 have hlm := HG.out.marks
 subst hn; subst hm
 have HT : Hid (∀ W, Below w.heap.size w W → It W) := fun W h => hT.old h
 have HA : Hid (∀ W, Below w.heap.size w W → Rd W A (flts xs)) := fun W h => hA.below h
 have HB : Hid (∀ W, Below w.heap.size w W → Rd W B (markC ms)) := fun W h => hB.below h
 have HC : Hid (∀ W, Below w.heap.size w W → Calls Tryz.prog 45 #[.agg #[.int .i64 st, .int .i64 sp, .slice A xs.length c, .slice B ms.length d]] W fun e w' => e = .returned (.int .i64 0) ∧ Below W.heap.size W w') := fun W h => by
  have := checkRecording_any st sp A B xs.length c ms.length d xs ms W (hA.below h) (hB.below h) rfl rfl (by omega)
  rw [h0] at this; exact this
 have HR0 := Lib.hid (Row.new w 33 [.int .i64 st, .int .i64 sp, .slice A xs.length c, .slice B ms.length d])
 have HB0 := Lib.hid ((Below.refl w.heap.size w).alloc (Nat.le_refl _) (.cells #[.int .i64 st, .int .i64 sp, .slice A xs.length c, .slice B ms.length d] 33))
 have HL0 : Hid (∀ (W : World) (q : Nat) l, W.heap.size = q → l = numLineB wRec [st, sp] → Below w.heap.size w W → Calls Tryz.prog 47 #[.string wRec, .slice (some ⟨q, 0, none⟩) 2 2] (W.alloc (.cells #[.int .i64 st, .int .i64 sp] 3)) fun e w' => e = .returned (.string l) ∧ Below (W.alloc (.cells #[.int .i64 st, .int .i64 sp] 3)).heap.size (W.alloc (.cells #[.int .i64 st, .int .i64 sp] 3)) w') := fun W q l hq hl h => by
  subst hq
  have hst := HG.out.start; have hsp := HG.out.step
  have hal : Below W.heap.size W (W.alloc (.cells #[.int .i64 st, .int .i64 sp] 3)) := (Below.refl _ _).alloc (Nat.le_refl _) _
  rw [hl]
  exact numberLine_any _ 2 2 wRec [st, sp] _ (hT.old (h.trans (hal.mono h.size))) (Rd.row (Row.new W 3 [.int .i64 st, .int .i64 sp])) rfl (by simp) (by intro x hx; simp at hx; rcases hx with rfl | rfl <;> omega) (by decide)
 clear hT hA hB h0
 obtain ⟨P, hP⟩ : ∃ P, P = printL st sp xs ms := ⟨_, rfl⟩
 rw [← hP]
 have HPe := Lib.hid hP
 clear hP
 go_enter Tryz.func9, Tryz.ntmps9
 go_wp2_with fail
 refine (HC.out _ HB0.out).mono ?_
 rintro e w1 ⟨rfl, hb1⟩
 have HR1 := Lib.hid (HR0.out.old hb1)
 have HB1 := Lib.hid (HB0.out.trans (hb1.mono HB0.out.size))
 have hs1 := hb1.size
 rw [World.size_alloc] at hs1
 have HN : Hid (Lib.IsBuilderF 122 5 w1.heap.size w1.heap.size [] (w1.alloc (.cells #[.pointer none, .slice none 0 0] 122))) := Lib.IsBuilderF.of (Lib.fresh_isBuilder _ _ _)
 have HN2 : Hid (Below w.heap.size w (w1.alloc (.cells #[.pointer none, .slice none 0 0] 122))) := HB1.out.alloc (HB1.out.size) _
 have HR2 := Lib.hid (HR1.out.alloc (.cells #[.pointer none, .slice none 0 0] 122))
 obtain ⟨b, hb⟩ : ∃ b, b = w1.heap.size := ⟨_, rfl⟩
 have hbs : (w1.alloc (.cells #[.pointer none, .slice none 0 0] 122)).heap.size = b + 1 := by rw [World.size_alloc, hb]
 rw [← hb] at HN hs1
 clear HR0 HB0 hb1 HR1 HB1
 go_upto_region 5 with fail
 rw [← hb]
 clear hb
 refine genP (a1 := fun W => Hid (Lib.IsBuilderF 122 5 b b [] W)) (a2 := fun W => Hid (Below w.heap.size w W)) (a3 := fun W => Hid (Row W w.heap.size 33 [.int .i64 st, .int .i64 sp, .slice A xs.length c, .slice B ms.length d])) (a4 := fun W => W.heap.size = b + 1) (w1.alloc (.cells #[.pointer none, .slice none 0 0] 122)) HN HN2 HR2 hbs ?_
 clear HN HN2 HR2 hbs
 intro W HN HN2 HR2 hbs
 have q0 := HR2.out.cell 0; have q1 := HR2.out.cell 1
 simp only [List.getElem?_cons_succ, List.getElem?_cons_zero] at q0 q1
 go_wp2_with fail
 have hal : Below W.heap.size W (W.alloc (.cells #[.int .i64 st, .int .i64 sp] 3)) := (Below.refl _ _).alloc (Nat.le_refl _) _
 obtain ⟨l0, Hl0, hl0⟩ := head_line HG.out
 refine (HL0.out W _ l0 hbs Hl0.out HN2.out).mono ?_
 rintro e w2 ⟨rfl, hb2⟩
 have hW2 := hal.trans (hb2.mono (by simp))
 have hW2s := hW2.size
 go_wp2_with fail
 refine (writeString b b [] l0 w2 (isBuilder_old HN.out hW2) (by simp; omega) (by omega)).mono ?_
 rintro e w3 ⟨rfl, hn3, hb3, -⟩
 have hI : PrI w b [.int .i64 st, .int .i64 sp, .slice A xs.length c, .slice B ms.length d] [l0] w3 :=
  ⟨by simpa [cellsL, flatC, Lib.byteCells, Lib.strCells] using hn3, (HN2.out.trans (hW2.mono HN2.out.size)).trans (hb3.mono (by omega)), (HR2.out.old hW2).below hb3 (by omega)⟩
 have HI := Lib.hid hI
 clear hI hn3 hb3 hW2 hW2s hb2 q0 q1 hal HN HN2 HR2 HL0
 have q3 := HI.out.row.cell 3
 simp only [List.getElem?_cons_succ, List.getElem?_cons_zero] at q3
 go_wp2
 go_loopw [25] (fun i wr => ∃ k : Nat, k ≤ ms.length ∧ i = .int .i64 k ∧ Hid (PrI w b [.int .i64 st, .int .i64 sp, .slice A xs.length c, .slice B ms.length d] (l0 :: (ms.take k).map markB) wr)) (fun i _ => ms.length - (intOf i).toNat)
 case atStart => exact ⟨0, Nat.zero_le _, rfl, HI.out⟩
 case round =>
  obtain ⟨k, hk, rfl, HI⟩ := hrel
  by_cases hlt : k < ms.length
  · obtain ⟨bb, off, hAb, hc1, hc2⟩ := Rd.mark (HB.out _ HI.out.below) hlt
    subst hAb
    obtain ⟨ix, hix⟩ : ∃ ix, ix = ms[k].1 := ⟨_, rfl⟩
    obtain ⟨nm, hnm⟩ : ∃ nm, nm = ms[k].2 := ⟨_, rfl⟩
    rw [← hix] at hc1; rw [← hnm] at hc2
    have hks := List.take_succ_eq_append_getElem hlt
    obtain ⟨hmk, hmn⟩ := HG.out.mark _ (List.getElem_mem hlt)
    obtain ⟨ml, Hml, hml⟩ : ∃ l, Hid (l = markB (ix, nm)) ∧ l.size ≤ 100 := ⟨_, rfl, by rw [hix, hnm]; exact markB_size hmk hlx hmn⟩
    have Hks : Hid (l0 :: (ms.take (k + 1)).map markB = (l0 :: (ms.take k).map markB) ++ [ml]) := by
     unfold Hid; rw [hks, Hml.out, hix, hnm, List.map_append]; rfl
    have Hix : Hid (0 ≤ ix ∧ ix < xs.length) := by unfold Hid; rw [hix]; exact hmk
    have HLm : Hid (∀ (W : World), Calls Tryz.prog 48 #[.slice (some ⟨W.heap.size, 0, none⟩) 3 3] (W.alloc (.cells #[.string ⟨#[109, 97, 114, 107]⟩, .string (itoaB ix), .string nm] 9)) fun e w' => e = .returned (.string ml) ∧ Below (W.alloc (.cells #[.string ⟨#[109, 97, 114, 107]⟩, .string (itoaB ix), .string nm] 9)).heap.size (W.alloc (.cells #[.string ⟨#[109, 97, 114, 107]⟩, .string (itoaB ix), .string nm] 9)) w') := fun W => by
     have h5 : (lineL [wMark, itoaB ix, nm]).length ≤ 100 := by rw [← lineB_size]; have := hml; rw [Hml.out] at this; exact this
     have := line_any W.heap.size 3 [wMark, itoaB ix, nm] _ (Rd.row (Row.new W 9 [.string wMark, .string (itoaB ix), .string nm])) (by simp) (by simp) (by omega) (by simp)
     rw [Hml.out]; exact this
    have HFk : Hid ((flatC (l0 :: (ms.take k).map markB)).length ≤ 2000) := by
     unfold Hid
     refine Nat.le_trans (flatC_len _ 100 ?_) ?_
     · intro x hx
       rcases List.mem_cons.1 hx with rfl | hx
       · exact hl0
       · obtain ⟨p, hp, rfl⟩ := List.mem_map.1 hx
         obtain ⟨h1, h2⟩ := HG.out.mark _ (List.mem_of_mem_take hp)
         exact markB_size h1 hlx h2
     · simp; omega
    clear hks hmk hmn hix hnm
    obtain ⟨g, hg⟩ : ∃ g, g = wr.heap.size := ⟨_, rfl⟩
    have HG7 := Lib.hid hg
    have hnew1 : ∀ o : Obj, (wr.alloc o).heap.size = wr.heap.size + 1 := fun o => by simp
    have hgb : g ≠ b := by have := HI.out.built.lt; omega
    go_upto_region 9 with fail
    rw [← hg]
    clear hg hnew1
    refine genP (a1 := fun W => Hid (Row W g 117 [.int .i64 ix, .string nm])) (a2 := fun W => Hid (PrI w b [.int .i64 st, .int .i64 sp, .slice A xs.length c, .slice (some ⟨bb, off, none⟩) ms.length d] (l0 :: (ms.take k).map markB) W)) (a3 := fun _ => True) (a4 := fun _ => True) (wr.alloc (.cells #[.int .i64 ix, .string nm] 117)) (HG7.out ▸ Row.new _ _ _) (HI.out.old ((Below.refl _ _).alloc (Nat.le_refl _) _)) trivial trivial ?_
    intro W HRm HIW _ _
    have r0 := HRm.out.cell 0; have r1 := HRm.out.cell 1
    simp only [List.getElem?_cons_succ, List.getElem?_cons_zero] at r0 r1
    refine wp_region_held_drew (S := fun w' => w'.cell? ⟨g, 0, none⟩ = some (.int .i64 ix) ∧ w'.cell? ⟨g, 1, none⟩ = some (.string nm)) (by kernel_rfl) ?_ (fun hHeld => ?_)
    · exact ⟨r0, r1⟩
    refine wpAnyH_take (i := 0) (oi := ⟨some 29, _, _, _, _, _⟩) (v := ?_) rfl (by kernel_rfl) (by kernel_rfl) (by kernel_rfl) (fun _ _ _ h => h) (Or.inl ⟨by kernel_rfl, ?_⟩) hHeld ?_
    rotate_left
    · intro w1 hSw; (try dsimp only at hSw); go_simp <;> with_reducible rfl
    try simp only [Act.put, List.setIfInBounds_toArray, List.set_cons_zero, List.set_cons_succ]
    refine wpAnyH_take (i := 1) (oi := ⟨some 30, _, _, _, _, _⟩) (v := ?_) rfl (by kernel_rfl) (by kernel_rfl) (by kernel_rfl) (fun _ _ _ h => h) (Or.inl ⟨by kernel_rfl, ?_⟩) hHeld ?_
    rotate_left
    · intro w1 hSw; (try dsimp only at hSw); go_simp <;> with_reducible rfl
    try simp only [Act.put, List.setIfInBounds_toArray, List.set_cons_zero, List.set_cons_succ]
    refine wpAnyH_take (i := 3) (oi := ⟨some 32, _, _, _, _, _⟩) (v := ?_) rfl (by kernel_rfl) (by kernel_rfl) (by kernel_rfl) (fun _ _ _ h => h) (Or.inl ⟨by kernel_rfl, ?_⟩) hHeld ?_
    rotate_left
    · intro w1 hSw; (try dsimp only at hSw); go_simp <;> with_reducible rfl
    try simp only [Act.put, List.setIfInBounds_toArray, List.set_cons_zero, List.set_cons_succ]
    refine wpAnyH_take (i := 4) (oi := ⟨some 33, _, _, _, _, _⟩) (v := ?_) rfl (by kernel_rfl) (by kernel_rfl) (by kernel_rfl) (fun _ _ _ h => h) (Or.inl ⟨by kernel_rfl, ?_⟩) hHeld ?_
    rotate_left
    · intro w1 hSw; (try dsimp only at hSw); go_simp <;> with_reducible rfl
    try simp only [Act.put, List.setIfInBounds_toArray, List.set_cons_zero, List.set_cons_succ]
    refine wpAnyH_ready (rs := [2]) (by kernel_rfl) (by simp) ?_
    refine AllReadyH.cons rfl (fun K hK => ?_) AllReadyH.nil
    go_simp
    go_at_call 49
    refine (itoa_any _ _ (HT.out _ (HIW.out.below.drew)) (by have := Hix.out; omega)).mono ?_
    rintro e w5 ⟨rfl, hb5⟩
    have HI5 := Lib.hid (HIW.out.drew.old hb5)
    have HR5 := Lib.hid (HRm.out.drew.old hb5)
    clear hb5
    try go_simp
    refine hK.out _ _ ?_ (fun hHeld => ?_)
    · exact ⟨(HR5.out.cell 0).trans rfl, (HR5.out.cell 1).trans rfl⟩
    clear hK K
    try simp only [Act.put, List.setIfInBounds_toArray, List.set_cons_zero, List.set_cons_succ]
    refine wpAnyH_ready (rs := [5]) (by kernel_rfl) (by simp) ?_
    refine AllReadyH.cons rfl (fun K hK => ?_) AllReadyH.nil
    go_simp
    refine hK.out _ _ ?_ (fun hHeld => ?_)
    · exact ⟨((HR5.out.alloc _).cell 0).trans rfl, ((HR5.out.alloc _).cell 1).trans rfl⟩
    clear hK K
    try simp only [Act.put, List.setIfInBounds_toArray, List.set_cons_zero, List.set_cons_succ]
    refine wpAnyH_ready (rs := [6]) (by kernel_rfl) (by simp) ?_
    refine AllReadyH.cons rfl (fun K hK => ?_) AllReadyH.nil
    go_simp
    go_at_call 48
    refine (HLm.out w5).mono ?_
    rintro e w6 ⟨rfl, hb6⟩
    have HI6 := Lib.hid ((HI5.out.old ((Below.refl _ _).alloc (Nat.le_refl _) _)).old hb6)
    have HR6 := Lib.hid ((HR5.out.alloc _).old hb6)
    clear hb6
    try go_simp
    refine hK.out _ _ ?_ (fun hHeld => ?_)
    · exact ⟨(HR6.out.cell 0).trans rfl, (HR6.out.cell 1).trans rfl⟩
    clear hK K
    try simp only [Act.put, List.setIfInBounds_toArray, List.set_cons_zero, List.set_cons_succ]
    refine wpAnyH_ready (rs := [7]) (by kernel_rfl) (by simp) ?_
    refine AllReadyH.cons rfl (fun K hK => ?_) AllReadyH.nil
    go_simp
    go_at_call 46
    refine (HI6.out.write ml hs1 (k := 2000) HFk.out (by omega)).mono ?_
    rintro e w7 ⟨rfl, hI7, hk7⟩
    have HI7 := Lib.hid hI7
    have HR7 := Lib.hid (HR6.out.others hk7 hgb (by decide))
    clear hI7 hk7
    try go_simp
    refine hK.out _ _ ?_ (fun hHeld => ?_)
    · exact ⟨(HR7.out.cell 0).trans rfl, (HR7.out.cell 1).trans rfl⟩
    clear hK K
    try simp only [Act.put, List.setIfInBounds_toArray, List.set_cons_zero, List.set_cons_succ]
    refine wpAnyH_done (by kernel_rfl) ?_ _
    go_wp2
    go_roundw
    case rel => exact ⟨k + 1, by omega, by go_num, by rw [Hks.out]; exact HI7.out⟩
    case measure => simp [intOf]; omega
  · obtain rfl : k = ms.length := by omega
    have HI0 : Hid (PrI w b [.int .i64 st, .int .i64 sp, .slice A xs.length c, .slice B ms.length d] ((l0 :: ms.map markB) ++ (xs.take 0).map sampB) wr) := by
     have := HI.out; rw [List.take_length] at this; show PrI _ _ _ _ _; simpa using this
    have HF0 : Hid ((flatC (l0 :: ms.map markB)).length ≤ 2000) := by
     unfold Hid
     refine Nat.le_trans (flatC_len _ 100 ?_) ?_
     · intro x hx
       rcases List.mem_cons.1 hx with rfl | hx
       · exact hl0
       · obtain ⟨p, hp, rfl⟩ := List.mem_map.1 hx
         obtain ⟨h1, h2⟩ := HG.out.mark _ hp
         exact markB_size h1 hlx h2
     · simp; omega
    have q2 := HI0.out.row.cell 2
    simp only [List.getElem?_cons_succ, List.getElem?_cons_zero] at q2
    clear HI
    go_wp2
    clear q2 q3
    go_loopw [41] (fun i wr => ∃ k : Nat, k ≤ xs.length ∧ i = .int .i64 k ∧ Hid (PrI w b [.int .i64 st, .int .i64 sp, .slice A xs.length c, .slice B ms.length d] ((l0 :: ms.map markB) ++ (xs.take k).map sampB) wr)) (fun i _ => xs.length - (intOf i).toNat)
    case atStart => exact ⟨0, Nat.zero_le _, rfl, HI0.out⟩
    case round =>
     clear HI0
     skip
     obtain ⟨k, hk, rfl, HI⟩ := hrel
     by_cases hlt : k < xs.length
     · obtain ⟨bb, off, hAb, hc1⟩ := Rd.flt (HA.out _ HI.out.below) hlt
       subst hAb
       obtain ⟨x, hx⟩ : ∃ x, x = xs[k] := ⟨_, rfl⟩
       rw [← hx] at hc1
       have hks := List.take_succ_eq_append_getElem hlt
       have hsx := HG.out.samp _ (List.getElem_mem hlt)
       rw [← hx] at hsx
       obtain ⟨ml, Hml, hml⟩ : ∃ l, Hid (l = sampB x) ∧ l.size ≤ 100 := ⟨_, rfl, sampB_size hsx⟩
       have Hks : Hid ((l0 :: ms.map markB) ++ (xs.take (k + 1)).map sampB = ((l0 :: ms.map markB) ++ (xs.take k).map sampB) ++ [ml]) := by
        unfold Hid; rw [hks, Hml.out, hx, List.map_append, ← List.append_assoc]; rfl
       have Hx := Lib.hid hsx
       have HLs : Hid (∀ (W : World), Below w.heap.size w W → Calls Tryz.prog 47 #[.string wSamp, .slice (some ⟨W.heap.size, 0, none⟩) 1 1] (W.alloc (.cells #[.int .i64 (unitI x)] 3)) fun e w' => e = .returned (.string ml) ∧ Below (W.alloc (.cells #[.int .i64 (unitI x)] 3)).heap.size (W.alloc (.cells #[.int .i64 (unitI x)] 3)) w') := fun W h => by
        have hal : Below W.heap.size W (W.alloc (.cells #[.int .i64 (unitI x)] 3)) := (Below.refl _ _).alloc (Nat.le_refl _) _
        rw [Hml.out]
        exact numberLine_any _ 1 1 wSamp [unitI x] _ (HT.out _ (h.trans (hal.mono h.size))) (Rd.row (Row.new W 3 [.int .i64 (unitI x)])) rfl (by simp) (by intro y hy; simp at hy; subst hy; exact unit_range hsx) (by decide)
       have HFk : Hid ((flatC ((l0 :: ms.map markB) ++ (xs.take k).map sampB)).length ≤ 2000000) := by
        unfold Hid
        have h1 := HF0.out
        have h2 := flatC_len ((xs.take k).map sampB) 100 (by
         intro y hy
         obtain ⟨z, hz, rfl⟩ := List.mem_map.1 hy
         exact sampB_size (HG.out.samp _ (List.mem_of_mem_take hz)))
        have h3 : flatC ((l0 :: ms.map markB) ++ (xs.take k).map sampB) = flatC (l0 :: ms.map markB) ++ flatC ((xs.take k).map sampB) := by simp [flatC]
        rw [h3, List.length_append]
        simp only [List.length_map, List.length_take] at h2
        omega
       clear hks hsx hx
       go_wp2_with fail
       refine (unitOf_ok _ _ Hx.out).mono ?_
       rintro e w5 ⟨rfl, rfl⟩
       go_wp2_with fail
       refine (HLs.out _ HI.out.below).mono ?_
       rintro e w6 ⟨rfl, hb6⟩
       have HI6 := Lib.hid ((HI.out.old ((Below.refl _ _).alloc (Nat.le_refl _) _)).old hb6)
       clear hb6
       go_wp2_with fail
       refine (HI6.out.write ml hs1 (k := 2000000) HFk.out (by omega)).mono ?_
       rintro e w7 ⟨rfl, hI7, -⟩
       have HI7 := Lib.hid hI7
       clear hI7
       go_wp2
       go_roundw
       case rel => exact ⟨k + 1, by omega, by go_num, by rw [Hks.out]; exact HI7.out⟩
       case measure => simp [intOf]; omega
     · obtain rfl : k = xs.length := by omega
       have HI9 : Hid (Lib.BuilderAtF 122 5 b b (.pointer (some ⟨b, 0, none⟩)) (Lib.byteCells P) wr ∧ Below w.heap.size w wr) := by
        have h := HI.out
        rw [List.take_length] at h
        have e : cellsL ((l0 :: ms.map markB) ++ xs.map sampB) = Lib.byteCells P := by rw [HPe.out, printL, printLs, Hl0.out]; rfl
        exact ⟨by rw [← e]; exact h.built, h.below⟩
       have hlen : (Lib.byteCells P).length = P.length := by simp [Lib.byteCells]
       clear HI
       go_wp2_with fail
       refine (Tryz.Builder_Len_f b b (Lib.byteCells P) _ (.inr HI9.out.1)).mono ?_
       rintro e w5 ⟨rfl, rfl⟩
       rw [hlen]
       by_cases hbig : 4096 < P.length
       · have HP : Hid (printRes P = .returned (.tuple #[.string ⟨#[]⟩, .int .i64 26])) := by unfold Hid printRes; rw [if_neg (by omega)]
         go_wp2
         go_ret2
         exact ⟨HP.out.symm, HI9.out.2⟩
       · have HP : Hid (printRes P = .returned (.tuple #[.string ⟨P.toArray⟩, .int .i64 0])) := by unfold Hid printRes; rw [if_pos (by omega)]
         go_wp2_with fail
         refine (Tryz.Builder_String_any_f b b P _ (.inr HI9.out.1) (by have := HI9.out.1.lt; omega)).mono ?_
         rintro e w6 ⟨rfl, -, hb6⟩
         have HB6 := Lib.hid (HI9.out.2.trans (hb6.mono (by omega)))
         clear hb6
         go_wp2
         go_ret2
         exact ⟨HP.out.symm, HB6.out⟩
variable {lb : Nat} {L : List ByteArray}
abbrev PaS := Int × Int × List Nat × List (Int × ByteArray)
def paV (S : PaS) (vs vm : Value) : List Value := [.int .i64 S.1, .int .i64 S.2.1, vs, vm]
def PaI (w0 : World) (lb : Nat) (L : List ByteArray) (R g : Nat) (S : PaS) (ws : List ByteArray) (W : World) : Prop :=
 w0.heap.size ≤ R ∧ w0.heap.size ≤ g ∧ ∃ vs vm, Row W R 33 (paV S vs vm) ∧ W.ownsRow w0.heap.size 56 1 vs S.2.2.1.length (flts S.2.2.1) ∧ W.ownsRow w0.heap.size 117 2 vm S.2.2.2.length (markC S.2.2.2) ∧ WdI lb L g ws W ∧ Below w0.heap.size w0 W
theorem own_ne {W : World} {g : Nat} {t e : TypeId} {us : List Value} {B s n : Nat} {v : Value} {xs : List Value} (h : Row W g t us) (hr : W.ownsRow B e s v n xs) (hte : t ≠ e) : v.ownBlock = none ∨ v.ownBlock ≠ some g := by
 rcases hr.2 with ⟨h1, _⟩ | ⟨k, cap, cur, h1, _, h3, _⟩
 · exact .inl (by rw [h1]; rfl)
 · refine .inr ?_
   rw [h1]
   intro e2
   have e3 : k = g := by simpa [Value.ownBlock] using e2
   subst e3
   rw [show W.heap[k]? = _ from h] at h3
   cases h3; exact hte rfl
theorem PaI.old {w0 : World} {R g : Nat} {S : PaS} {ws : List ByteArray} {W W' : World} (h : PaI w0 lb L R g S ws W) (hb : Below W.heap.size W W') : PaI w0 lb L R g S ws W' := by
 obtain ⟨h1, h2, vs, vm, h3, h4, h5, h6, h7⟩ := h
 exact ⟨h1, h2, vs, vm, h3.old hb, owns_below h4 hb, owns_below h5 hb, h6.old hb, h7.trans (hb.mono h7.size)⟩
theorem PaI.next {w0 : World} {R g : Nat} {S : PaS} {ws ws' : List ByteArray} {W W' : World} (h : PaI w0 lb L R g S ws W) (hg : W.grownBy W' (some g)) (hw : WdI lb L g ws' W') : PaI w0 lb L R g S ws' W' := by
 obtain ⟨h1, h2, vs, vm, h3, h4, h5, ⟨_, rb, off, c, all, h6, -⟩, h7⟩ := h
 exact ⟨h1, h2, vs, vm, h3.grown hg (fun e => h3.ne h6 (by decide) (Option.some.inj e)), h4.kept hg (own_ne h6 h4 (by decide)), h5.kept hg (own_ne h6 h5 (by decide)), hw, h7.grown hg h7.size (fun k hk => by cases hk; exact h2)⟩
theorem PaI.words {w0 : World} {R g : Nat} {S : PaS} {ws : List ByteArray} {W : World} (h : PaI w0 lb L R g S ws W) : WdI lb L g ws W := by
 obtain ⟨-, -, _, _, -, -, -, h6, -⟩ := h; exact h6
theorem PaI.below {w0 : World} {R g : Nat} {S : PaS} {ws : List ByteArray} {W : World} (h : PaI w0 lb L R g S ws W) : Below w0.heap.size w0 W := by
 obtain ⟨-, -, _, _, -, -, -, -, h7⟩ := h; exact h7
theorem PaI.set {w0 : World} {R g : Nat} {S S' : PaS} {ws : List ByteArray} {W : World} {vs vm vs' vm' : Value} {i : Nat} {u : Value} (h1 : w0.heap.size ≤ R) (h2 : w0.heap.size ≤ g) (h3 : Row W R 33 (paV S vs vm)) (h4 : W.ownsRow w0.heap.size 56 1 vs' S'.2.2.1.length (flts S'.2.2.1)) (h5 : W.ownsRow w0.heap.size 117 2 vm' S'.2.2.2.length (markC S'.2.2.2)) (h6 : WdI lb L g ws W) (h7 : Below w0.heap.size w0 W)
 (hs : (paV S vs vm).set i u = paV S' vs' vm') : PaI w0 lb L R g S' ws (W.setCell ⟨R, i, none⟩ u) := by
 have hgr : W.grownBy (W.setCell ⟨R, i, none⟩ u) (some R) := ⟨rfl, rfl, rfl, by simp, fun k _ hk => heap_setCell_other _ _ _ _ (fun e => hk (by rw [e]))⟩
 exact ⟨h1, h2, vs', vm', by rw [← hs]; exact h3.set i u, h4.kept hgr (own_ne h3 h4 (by decide)), h5.kept hgr (own_ne h3 h5 (by decide)), h6.grown hgr (fun k t us hk ht e => hk.ne h3 (by rcases ht with rfl | rfl <;> decide) (Option.some.inj e)), h7.setCell (by simpa using h1) _⟩
theorem PaI.takes {w0 : World} {R g : Nat} {S : PaS} {ws : List ByteArray} {W : World} (h : PaI w0 lb L R g S ws W) (hm : ws.length ≤ 1000000) : Calls Tryz.prog 118 #[.pointer (some ⟨g, 0, none⟩)] W fun e w' => e = .returned (.string (headW ws)) ∧ PaI w0 lb L R g S ws.tail w' :=
 (next_any g ws W h.words hm).mono fun e w' ⟨h1, h2, h3⟩ => ⟨h1, h.next h3 h2⟩
def headS (S : PaS) (ws : List ByteArray) : PaS := (countV (headW ws).data.toList, countV (headW ws.tail).data.toList, S.2.2.1, S.2.2.2)
def headOk (ws : List ByteArray) : Bool := countOk (headW ws).data.toList && countOk (headW ws.tail).data.toList
set_option maxRecDepth 100000 in
set_option maxHeartbeats 1000000 in
theorem readHead_any (w0 : World) (R g : Nat) (S : PaS) (ws : List ByteArray) (w : World) (h : PaI w0 lb L R g S ws w) (hm : ws.length ≤ 1000000) :
 Calls Tryz.prog 147 #[.pointer (some ⟨R, 0, none⟩), .func (.func 118) #[.pointer (some ⟨g, 0, none⟩)] #[]] w fun e w' => e = .returned (.bool (headOk ws)) ∧ PaI w0 lb L R g (headS S ws) ws.tail.tail w' := by
 have H0 := Lib.hid h
 clear h
 go_enter Tryz.func147, Tryz.ntmps147
 go_wp2_with fail
 refine (H0.out.takes hm).mono ?_
 rintro e w1 ⟨rfl, h1⟩
 have H1 := Lib.hid h1
 clear h1
 go_wp2_with fail
 refine (count_any _ _).mono ?_
 rintro e w2 ⟨rfl, hb2⟩
 have H2 := Lib.hid (H1.out.old hb2)
 clear hb2
 unfold countE
 go_wp2_with fail
 refine (H2.out.takes (by simp; omega)).mono ?_
 rintro e w3 ⟨rfl, h3⟩
 have H3 := Lib.hid h3
 clear h3
 go_wp2_with fail
 refine (count_any _ _).mono ?_
 rintro e w4 ⟨rfl, hb4⟩
 obtain ⟨k1, k2, vs, vm, k3, k4, k5, k6, k7⟩ := H3.out.old hb4
 have c0 := k3.cell 0; have c1 := k3.cell 1
 have f0 := k3.free 0; have f1 := k3.free 1
 have K : Hid (PaI w0 lb L R g (headS S ws) ws.tail.tail ((w4.setCell ⟨R, 0, none⟩ (.int .i64 (countV (headW ws).data.toList))).setCell ⟨R, 1, none⟩ (.int .i64 (countV (headW ws.tail).data.toList)))) := by
  obtain ⟨j1, j2, vs2, vm2, j3, j4, j5, j6, j7⟩ := PaI.set (S' := (countV (headW ws).data.toList, S.2.1, S.2.2.1, S.2.2.2)) (i := 0) (u := .int .i64 (countV (headW ws).data.toList)) k1 k2 k3 k4 k5 k6 k7 rfl
  exact PaI.set j1 j2 j3 j4 j5 j6 j7 rfl
 simp only [paV, List.getElem?_cons_succ, List.getElem?_cons_zero] at c0 c1
 clear hb4 k1 k2 k3 k4 k5 k6 k7
 unfold countE
 go_wp2
 all_goals
  go_ret
  exact ⟨by simp [headOk, *], K.out⟩
theorem own_own {W : World} {e e' : TypeId} {B s n B' s' n' : Nat} {v v' : Value} {xs xs' : List Value} (h : W.ownsRow B e s v n xs) (h' : W.ownsRow B' e' s' v' n' xs') (he : e ≠ e') : v.ownBlock = none ∨ v.ownBlock ≠ v'.ownBlock := by
 rcases h.2 with ⟨h1, _⟩ | ⟨k, cap, cur, h1, _, h3, _⟩
 · exact .inl (by rw [h1]; rfl)
 · refine .inr ?_
   rcases h'.2 with ⟨h1', _⟩ | ⟨k', cap', cur', h1', _, h3', _⟩
   · rw [h1, h1']; intro e; cases e
   · rw [h1, h1']
     intro e2
     have e3 : k = k' := by simpa [Value.ownBlock] using e2
     subst e3
     rw [h3] at h3'
     cases h3'; exact he rfl
theorem markC_snoc (l : List (Int × ByteArray)) (n : Int) (nm : ByteArray) : markC (l ++ [(n, nm)]) = markC l ++ [.int .i64 n, .string nm] := by rw [markC_app]; rfl
theorem grew_row {W W1 : World} {o : Obj} {v : Value} {e t : TypeId} {B s n g : Nat} {xs us : List Value} (h : Row W g t us) (hv : W.ownsRow B e s v n xs) (hg : (W.alloc o).grownBy W1 v.ownBlock) (ht : t ≠ e) : Row W1 g t us := by
 refine (h.alloc o).grown hg ?_
 rcases own_ne h hv ht with h1 | h1
 · rw [h1]; simp
 · exact fun e => h1 e.symm
theorem grew_own {W W1 : World} {o : Obj} {v v' : Value} {e e' : TypeId} {B s n B' s' n' : Nat} {xs xs' : List Value} (h : W.ownsRow B' e' s' v' n' xs') (hv : W.ownsRow B e s v n xs) (hg : (W.alloc o).grownBy W1 v.ownBlock) (ht : e' ≠ e) : W1.ownsRow B' e' s' v' n' xs' :=
 (h.alloc o).kept hg (own_own h hv ht)
theorem grew_wd {W W1 : World} {o : Obj} {v : Value} {e : TypeId} {B s n g : Nat} {xs : List Value} {ws : List ByteArray} (h : WdI lb L g ws W) (hv : W.ownsRow B e s v n xs) (hg : (W.alloc o).grownBy W1 v.ownBlock) (h1 : 202 ≠ e) (h2 : 9 ≠ e) : WdI lb L g ws W1 := by
 obtain ⟨k0, rb, off, c, all, k1, k2, k3⟩ := h
 exact ⟨grew_row k0 hv hg h2, rb, off, c, all, grew_row k1 hv hg h1, grew_row k2 hv hg h2, k3⟩
def markS (S : PaS) (ws : List ByteArray) : PaS := (S.1, S.2.1, S.2.2.1, S.2.2.2 ++ [(countV (headW ws).data.toList, headW ws.tail)])
def markOk (ws : List ByteArray) : Bool := countOk (headW ws).data.toList && !(headW ws.tail).toList.isEmpty
set_option maxRecDepth 100000 in
set_option maxHeartbeats 1000000 in
theorem readMark_any (w0 : World) (R g : Nat) (S : PaS) (ws : List ByteArray) (w : World) (h : PaI w0 lb L R g S ws w) (hm : ws.length ≤ 1000000) (hmk : S.2.2.2.length ≤ 1000000) :
 Calls Tryz.prog 149 #[.pointer (some ⟨R, 0, none⟩), .func (.func 118) #[.pointer (some ⟨g, 0, none⟩)] #[]] w fun e w' => e = .returned (.bool (markOk ws)) ∧ PaI w0 lb L R g (markS S ws) ws.tail.tail w' := by
 have H0 := Lib.hid h
 clear h
 go_enter Tryz.func149, Tryz.ntmps149
 go_wp2_with fail
 refine (H0.out.takes hm).mono ?_
 rintro e w1 ⟨rfl, h1⟩
 have H1 := Lib.hid h1
 clear h1
 go_wp2_with fail
 refine (count_any _ _).mono ?_
 rintro e w2 ⟨rfl, hb2⟩
 have H2 := Lib.hid (H1.out.old hb2)
 clear hb2
 unfold countE
 go_wp2_with fail
 refine (H2.out.takes (by simp; omega)).mono ?_
 rintro e w3 ⟨rfl, h3⟩
 obtain ⟨k1, k2, vs, vm, k3, k4, k5, k6, k7⟩ := h3
 have c3 := k3.cell 3
 simp only [paV, List.getElem?_cons_succ, List.getElem?_cons_zero] at c3
 obtain ⟨n, hn⟩ : ∃ n, n = countV (headW ws).data.toList := ⟨_, rfl⟩
 obtain ⟨nm, hnm⟩ : ∃ nm, nm = headW ws.tail := ⟨_, rfl⟩
 have Hn := Lib.hid hn; have Hnm := Lib.hid hnm
 rw [← hn, ← hnm]
 clear hn hnm
 have hsz := k7.size
 have K3 := Lib.hid k3; have K4 := Lib.hid k4; have K5 := Lib.hid k5; have K6 := Lib.hid k6; have K7 := Lib.hid k7
 clear k3 k4 k5 k6 k7
 obtain ⟨im, hmi, him0, him1, him2⟩ := info_parts info158
 have him3 : (Value.agg #[.int .i64 0, .string ⟨#[]⟩]).cells.size = 2 := rfl
 go_wp2_with (at_builtin; refine wpList_append_own_at _ rfl _ _ 31 rfl w0.heap.size 117 im (.agg #[.int .i64 0, .string ⟨#[]⟩]) 2 24 Tryz.underlying31 hmi him0 him1 him2 rfl (by decide) _ _ _ rfl (K5.out.alloc _) ⟨w3.heap.size, 0, none⟩ 1 1 [.int .i64 n, .string nm] rfl rfl (news2 _ _ _ _ _ ?c1) ?c2 ?c3 ?c4 ?c5 ?_)
 case c1 => rfl
 case c2 => simp [Value.oneCell']
 case c3 => unfold maxLen; omega
 case c4 => omega
 case c5 => simp; omega
 all_goals
  intro v' w4 ho4 hg4 _ _
  rw [← markC_snoc] at ho4
  obtain ⟨g5, c5, rfl, -, -⟩ := ownsRow.addr ho4 (by omega)
  have k3 := grew_row K3.out K5.out hg4 (by decide)
  have k4 := grew_own K4.out K5.out hg4 (by decide)
  have k6 := grew_wd K6.out K5.out hg4 (by decide) (by decide)
  have k7 := Below.app K7.out hsz K5.out hg4
  have d3 := k3.cell 3
  have f3 := k3.free 3
  have KK : Hid (PaI w0 lb L R g (markS S ws) ws.tail.tail (w4.setCell ⟨R, 3, none⟩ (.slice (some ⟨g5, 0, none⟩) (S.2.2.2.length + 1) c5))) := by
   refine PaI.set (S' := markS S ws) (i := 3) k1 k2 k3 k4 ?_ k6 k7 rfl
   unfold markS; rw [← Hn.out, ← Hnm.out]
   simpa using ho4
  simp only [paV, List.getElem?_cons_succ, List.getElem?_cons_zero] at d3
  clear k3 k4 k6 k7 ho4 hg4 K3 K4 K5 K6 K7
  go_wp2
  all_goals
   go_ret
   exact ⟨by simp [markOk, ← Hnm.out, *], KK.out⟩
def sampS (S : PaS) (ws : List ByteArray) : PaS := (S.1, S.2.1, S.2.2.1 ++ [fb (intV (headW ws).data.toList)], S.2.2.2)
def sampOk (ws : List ByteArray) : Bool := intOk (headW ws).data.toList
theorem flts_snoc1 (xs : List Nat) (x : Nat) : flts (xs ++ [x]) = flts xs ++ [.float .f32 x] := by simp [flts]
theorem samp_done {w0 : World} {R g : Nat} {S : PaS} {ws ws' : List ByteArray} {W W1 : World} {vs vm u : Value} {o : Obj} (h1 : w0.heap.size ≤ R) (h2 : w0.heap.size ≤ g) (h3 : Row W R 33 (paV S vs vm)) (h4 : W.ownsRow w0.heap.size 56 1 vs S.2.2.1.length (flts S.2.2.1)) (h5 : W.ownsRow w0.heap.size 117 2 vm S.2.2.2.length (markC S.2.2.2)) (h6 : WdI lb L g ws' W) (h7 : Below w0.heap.size w0 W) (hsz : w0.heap.size ≤ W.heap.size)
 (hg : (W.drew.alloc o).grownBy W1 vs.ownBlock) (ho : W1.ownsRow w0.heap.size 56 1 u (S.2.2.1.length + 1) (flts S.2.2.1 ++ [.float .f32 (fb (intV (headW ws).data.toList))])) : PaI w0 lb L R g (sampS S ws) ws' (W1.setCell ⟨R, 2, none⟩ u) := by
 have h4' : W.drew.ownsRow w0.heap.size 56 1 vs S.2.2.1.length (flts S.2.2.1) := h4
 have k6 : WdI lb L g ws' W.drew := h6
 refine PaI.set (S' := sampS S ws) (i := 2) h1 h2 (grew_row h3.drew h4' hg (by decide)) ?_ (grew_own (W := W.drew) h5 h4' hg (by decide)) (grew_wd k6 h4' hg (by decide) (by decide)) (Below.app h7.drew hsz h4' hg) rfl
 unfold sampS; rw [flts_snoc1]; simpa using ho
theorem Row.new_drew (w : World) (t : TypeId) (vs : List Value) : Row (w.drew.alloc (.cells vs.toArray t)) w.heap.size t vs := Row.new w.drew t vs
set_option maxRecDepth 100000 in
set_option maxHeartbeats 2000000 in
theorem readSample_any (w0 : World) (R g : Nat) (S : PaS) (ws : List ByteArray) (w : World) (h : PaI w0 lb L R g S ws w) (hm : ws.length ≤ 1000000) (hsm : S.2.2.1.length ≤ 1000000) (hn : (intV (headW ws).data.toList).natAbs < 2 ^ 30) :
 Calls Tryz.prog 151 #[.pointer (some ⟨R, 0, none⟩), .func (.func 118) #[.pointer (some ⟨g, 0, none⟩)] #[]] w fun e w' => e = .returned (.bool (sampOk ws)) ∧ PaI w0 lb L R g (sampS S ws) ws.tail w' := by
 have H0 := Lib.hid h
 have HN0 := Lib.hid hn
 clear h hn
 go_enter Tryz.func151, Tryz.ntmps151
 go_wp2_with fail
 refine (H0.out.takes hm).mono ?_
 rintro e w1 ⟨rfl, h1⟩
 have H1 := Lib.hid h1
 clear h1
 go_wp2_with fail
 refine (integer_any _ _).mono ?_
 rintro e w3 ⟨rfl, hb2⟩
 obtain ⟨k1, k2, vs, vm, k3, k4, k5, k6, k7⟩ := H1.out.old hb2
 have c2 := k3.cell 2
 have f2 := k3.free 2
 simp only [paV, List.getElem?_cons_succ, List.getElem?_cons_zero] at c2
 obtain ⟨n, hn⟩ : ∃ n, n = intV (headW ws).data.toList := ⟨_, rfl⟩
 obtain ⟨ok, hok⟩ : ∃ ok, ok = intOk (headW ws).data.toList := ⟨_, rfl⟩
 have Hn := Lib.hid hn; have Hok := Lib.hid hok
 have HN : Hid (n.natAbs < 2 ^ 30) := by unfold Hid; rw [hn]; exact HN0.out
 unfold intE
 rw [← hn, ← hok]
 clear hn hok hb2
 have hsz := k7.size
 have nn2 := World.new_ne w3 ⟨R, 2, none⟩ c2
 have a2 : ∀ o, (w3.alloc o).cell? ⟨R, 2, none⟩ = some vs := fun o => keepC c2 ((Below.refl _ _).alloc (Nat.le_refl _) o)
 have K3 := Lib.hid k3; have K4 := Lib.hid k4; have K5 := Lib.hid k5; have K6 := Lib.hid k6; have K7 := Lib.hid k7
 clear k3 k4 k5 k6 k7
 go_upto_region 2 with fail
 go_region_law (first | (refine step_app rfl (.tmp 17) (.tmp 20) 22 rfl w0.heap.size 56 (.float .f32 0) 1 4 Tryz.underlying22 info37 rfl (by decide) vs S.2.2.1.length (flts S.2.2.1) rfl (K4.out.alloc _) w3.heap.size 1 1 [.float .f32 (fb n)] rfl 56 (Row.new_drew w3 56 [.float .f32 (fb n)]) rfl (by simp [Value.oneCell']) (by unfold maxLen; omega) (by omega) (by simp; omega) ?_; intro v' w4 ho4 hg4; obtain ⟨g5, c5, rfl, -, -⟩ := ownsRow.addr ho4 (by omega); have k3 := grew_row K3.out.drew (show w3.drew.ownsRow _ _ _ _ _ _ from K4.out) hg4 (by decide); have d2 : w4.cell? ⟨R, 2, none⟩ = some vs := (by rw [k3.cell]; rfl); have e2 := k3.free 2; have K : Hid (PaI w0 lb L R g (sampS S ws) ws.tail (w4.setCell ⟨R, 2, none⟩ (.slice (some ⟨g5, 0, none⟩) (S.2.2.1.length + 1) c5))) := samp_done k1 k2 K3.out K4.out K5.out K6.out K7.out hsz hg4 (by rw [← Hn.out]; exact ho4); clear k3 ho4 hg4) | (go_simp; go_at_call 72; refine (sampleOf_all n _ HN.out).mono ?_; rintro e w9 ⟨rfl, rfl⟩; go_simp))
 all_goals
  clear d2 e2 nn2 a2 c2 f2 K3 K4 K5 K6 K7
  go_wp2
  go_ret
  exact ⟨by rw [Hok.out]; rfl, K.out⟩
end Go.Proofs.YtjdniebjhilooaaGreatDoor
