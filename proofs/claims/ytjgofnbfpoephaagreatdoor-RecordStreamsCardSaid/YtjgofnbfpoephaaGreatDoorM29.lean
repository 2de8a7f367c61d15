/- Texts that were made one by one: Ln Nx. -/
import Derived.Test.YtjgofnbfpoephaaGreatDoorQ1
import Derived.Test.YtjgofnbfpoephaaGreatDoorM26
import Derived.Test.YtjgofnbfpoephaaGreatDoorM07
import Derived.Test.YtjgofnbfpoephaaGreatDoorM28
import Derived.Test.YtjgofnbfpoephaaGreatDoorQ2
/- Contracts: lines of words. -/
namespace Go.Proofs.YtjgofnbfpoephaaGreatDoor
set_option linter.all false
open Go.RowKit
set_option linter.unusedVariables false
set_option linter.unusedSimpArgs false

set_option maxRecDepth 100000 in
set_option maxHeartbeats 1000000 in
theorem mappedItoa_any (A : Option Addr) (n c : Nat) (xs : List Int) (w : World) (hT : It w) (hA : Rd w A (ints xs)) (hn : n = xs.length) (hm : xs.length ≤ 4096) (hs : ∀ x ∈ xs, -9223372036854775808 ≤ x ∧ x ≤ 9223372036854775807) :
    Calls Tryz.prog 182 #[.slice A n c, .func (.func 156) #[] #[]] w fun e w' => ∃ g, e = .returned (.slice (some ⟨g, 0, none⟩) n n) ∧ Row w' g 9 (strs (xs.map itoaB)) ∧ w.heap.size ≤ g ∧ Below w.heap.size w w' := by
  subst hn
  have Hs := Lib.hid hs
  have HT := Lib.hid hT
  clear hs hT
  have hmk := fun W : World => make1 (P := Tryz.prog) 120 9 (.string ⟨#[]⟩) 16 Tryz.underlying120 info9 rfl xs.length (by omega) (by omega) W
  go_enter Tryz.func182, Tryz.ntmps182
  go_wp2
  go_loopw [13] (fun i wr => ∃ k : Nat, k ≤ xs.length ∧ i = .int .i64 k ∧ Row wr w.heap.size 9 (((xs.map itoaB).take k).map Value.string ++ List.replicate (xs.length - k) (.string ⟨#[]⟩)) ∧ Below w.heap.size w wr) (fun i _ => xs.length - (intOf i).toNat)
  case atStart => exact ⟨0, Nat.zero_le _, rfl, by have := Row.new w 9 (List.replicate xs.length (.string ⟨#[]⟩)); simpa using this, (Below.refl _ _).alloc (Nat.le_refl _) _⟩
  case round =>
    obtain ⟨k, hk, rfl, hrow, hb⟩ := hrel
    by_cases hlt : k < xs.length
    · obtain ⟨b, off, rfl, hc⟩ := Rd.int (hA.below hb) hlt
      have hset := Lib.hid (part_setG Value.string (xs.map itoaB) (.string ⟨#[]⟩) xs.length k (by simpa using hlt) (by simp))
      have hfk := Lib.hid (show (xs.map itoaB)[k]'(by simpa using hlt) = itoaB xs[k] by simp)
      have hsk := Lib.hid (Hs.out xs[k] (List.getElem_mem hlt))
      have Hrow := Lib.hid hrow
      have Hb := Lib.hid hb
      clear hrow hb
      go_wp2_with fail
      refine (itoa_any _ _ (HT.out.old Hb.out) hsk.out).mono ?_
      rintro e w1 ⟨rfl, hb1⟩
      have hrow1 := Hrow.out.old hb1
      have hc1 : w1.cell? ⟨w.heap.size, k, none⟩ = some (.string ⟨#[]⟩) := by
        rw [hrow1.cell]
        exact mid_get _ _ _ _ (by simp; omega) hlt
      have hf1 := hrow1.free k
      have Hrow1 := Lib.hid hrow1
      have Hb1 := Lib.hid (Hb.out.trans (hb1.mono (Hb.out.size)))
      clear hb1 hrow1
      go_wp2
      go_roundw
      case rel => exact ⟨k + 1, by omega, by go_num, by rw [← hset.out, hfk.out]; exact Hrow1.out.set k _, Hb1.out.setCell (by simp) _⟩
      case measure => simp [intOf]; omega
    · obtain rfl : k = xs.length := by omega
      go_wp2
      go_ret
      exact ⟨_, rfl, by rw [Nat.sub_self, List.replicate_zero, List.append_nil, List.take_of_length_le (by simp)] at hrow; exact hrow, Nat.le_refl _, hb⟩

/-- words as a line -/
def lineL (ws : List ByteArray) : List UInt8 := Lib.join (ws.map (·.data.toList)) [32] ++ [10]
def lineB (ws : List ByteArray) : ByteArray := ⟨(lineL ws).toArray⟩
theorem lineB_list (ws : List ByteArray) : (lineB ws).data.toList = lineL ws := by simp [lineB]
theorem lineB_size (ws : List ByteArray) : (lineB ws).size = (lineL ws).length := by simp [lineB, ByteArray.size]
theorem lineB_eq (ws : List ByteArray) : (⟨(Lib.join (ws.map (·.data.toList)) [32]).toArray⟩ : ByteArray) ++ ⟨#[10]⟩ = lineB ws := by
  apply ByteArray.ext
  simp [lineB, lineL]
theorem ret_str {a b : ByteArray} (h : a = b) : Ending.returned (.string a) = .returned (.string b) := by rw [h]
theorem line_any (bk c : Nat) (ws : List ByteArray) (w : World) (hr : Rd w (some ⟨bk, 0, none⟩) (strs ws)) (hbk : bk < w.heap.size) (hc : ws.length ≤ c) (hl : (lineL ws).length ≤ 140737488355328) (hn : ws.length ≤ 140737488355328) :
    Calls Tryz.prog 155 #[.slice (some ⟨bk, 0, none⟩) ws.length c] w fun e w' => e = .returned (.string (lineB ws)) ∧ Below w.heap.size w w' := by
  have hj : (Lib.join (ws.map (·.data.toList)) [32]).length ≤ 140737488355328 := by
    unfold lineL at hl; rw [List.length_append] at hl; omega
  have hsz : (⟨(Lib.join (ws.map (·.data.toList)) [32]).toArray⟩ : ByteArray).size ≤ 140737488355328 := by simpa [ByteArray.size] using hj
  have hsz1 : (⟨#[10]⟩ : ByteArray).size = 1 := rfl
  have HE := Lib.hid (lineB_eq ws)
  have HJ := Lib.hid (Tryz.strings_Join bk 0 c ws ⟨#[32]⟩ w (fun j x hx => by obtain ⟨b, off, h1, h2⟩ := hr j (.string x) (by simp [strs, hx]); cases h1; exact h2) hbk hn hc hj)
  clear hl hj
  go_enter Tryz.func155, Tryz.ntmps155
  go_wp2_with fail
  refine HJ.out.mono ?_
  rintro e w1 ⟨rfl, hb⟩
  go_wp2
  go_ret
  exact ⟨ret_str (by rw [HE.out]), hb⟩

def numLineB (wd : ByteArray) (l : List Int) : ByteArray := lineB (wd :: l.map itoaB)
theorem numeral_len (n : Int) (h : -9223372036854775808 ≤ n ∧ n ≤ 9223372036854775807) : (itoaB n).size ≤ 21 := by simpa [itoaB, ByteArray.size] using Lib.itoa_length_le n h.1 h.2
theorem joinTail_len (r : List ByteArray) (m : Nat) (h : ∀ x ∈ r, x.size ≤ m) : (Lib.joinTail [32] (r.map (·.data.toList))).length ≤ r.length * (m + 1) := by
  induction r with
  | nil => simp [Lib.joinTail]
  | cons x r ih =>
    have h1 := h x (by simp)
    have h2 := ih (fun y hy => h y (by simp [hy]))
    unfold Lib.joinTail at *
    have hx : x.data.toList.length = x.size := Array.length_toList
    simp only [List.map_cons, List.flatten_cons, List.length_append, List.length_cons, List.length_nil, Nat.succ_mul, hx]
    omega
theorem lineL_len (wd : ByteArray) (r : List ByteArray) (m : Nat) (h : ∀ x ∈ r, x.size ≤ m) : (lineL (wd :: r)).length ≤ wd.size + r.length * (m + 1) + 1 := by
  have := joinTail_len r m h
  have hx : wd.data.toList.length = wd.size := Array.length_toList
  unfold lineL
  rw [List.map_cons, Lib.join_cons, List.length_append, List.length_append, hx]
  simp only [List.length_cons, List.length_nil]
  omega
theorem numLine_len (wd : ByteArray) (l : List Int) (hs : ∀ x ∈ l, -9223372036854775808 ≤ x ∧ x ≤ 9223372036854775807) : (lineL (wd :: l.map itoaB)).length ≤ wd.size + l.length * 22 + 1 := by
  have := lineL_len wd (l.map itoaB) 21 (fun x hx => by obtain ⟨n, hn, rfl⟩ := List.mem_map.1 hx; exact numeral_len n (hs n hn))
  simpa using this

theorem ownsRow.cap {w : World} {B g : Nat} {e : TypeId} {n c m : Nat} {xs : List Value} (h : w.ownsRow B e 1 (.slice (some ⟨g, 0, none⟩) n c) m xs) : m ≤ c := by
  rcases h.2 with ⟨h1, _⟩ | ⟨g', cap, cur, h1, _, _, h2, _⟩
  · cases h1
  · cases h1; exact h2

set_option maxRecDepth 100000 in
set_option maxHeartbeats 400000 in
theorem numberLine_any (A : Option Addr) (n c : Nat) (wd : ByteArray) (xs : List Int) (w : World) (hT : It w) (hA : Rd w A (ints xs)) (hn : n = xs.length) (hm : xs.length ≤ 4096) (hs : ∀ x ∈ xs, -9223372036854775808 ≤ x ∧ x ≤ 9223372036854775807) (hw : wd.size ≤ 1000) :
    Calls Tryz.prog 154 #[.string wd, .slice A n c] w fun e w' => e = .returned (.string (numLineB wd xs)) ∧ Below w.heap.size w w' := by
  subst hn
  have Hs := Lib.hid hs
  have HM := Lib.hid (mappedItoa_any A xs.length c xs (w.alloc (.cells #[.string wd] 9)) (hT.old ((Below.refl _ _).alloc (Nat.le_refl _) _)) (hA.below ((Below.refl _ _).alloc (Nat.le_refl _) _)) rfl hm hs)
  have R0 := Lib.hid (Row.new w 9 [.string wd])
  have HL := Lib.hid (numLine_len wd xs hs)
  have hms := Lib.hid hm
  clear hs hT hA
  obtain ⟨i0, hi, hz0, hz1, hz2⟩ := info_parts info9
  go_enter Tryz.func154, Tryz.ntmps154
  go_wp2_with (go_at_call 182; refine HM.out.mono ?_)
  rintro e w1 ⟨g, rfl, hrow, hg, hb⟩
  have r1 := R0.out.old hb
  have hb0 := (((Below.refl w.heap.size w).alloc (Nat.le_refl _) (.cells #[.string wd] 9))).trans (hb.mono (by simp))
  have hsz := hb0.size
  have ho := row_owns r1 1 1 w.heap.size rfl (by unfold maxLen; decide) (Nat.le_refl _)
  have Hb0 := Lib.hid hb0; have Hrow := Lib.hid hrow
  clear hb hb0 hrow r1
  go_wp2_with (at_builtin; refine wpList_app rfl _ _ 120 rfl w.heap.size 9 (.string ⟨#[]⟩) 1 16 Tryz.underlying120 info9 rfl (by decide) _ 1 [.string wd] rfl ho (some ⟨g, 0, none⟩) xs.length xs.length (strs (xs.map itoaB)) rfl (by intro h; cases h) (Rd.row Hrow.out) (by simp [strs]) ?c1 ?c2 ?c3 ?c4 ?_)
  case c1 => simp [strs, Value.oneCell']
  case c2 => unfold maxLen; omega
  case c3 => omega
  case c4 => omega
  intro v' w2 ho2 hg2
  obtain ⟨g2, c2, rfl, hg2a, hg2b⟩ := ownsRow.addr ho2 (by omega)
  have hcap := ownsRow.cap ho2
  have hr2 := owned_rd ho2
  have hb2 := Lib.hid (Hb0.out.grown hg2 (by omega) (fun k hk => (ho.lt k hk).1))
  have HK := Lib.hid (line_any g2 c2 (wd :: xs.map itoaB) w2 hr2 hg2b (by simp; omega) (by have := HL.out; omega) (by simp; omega))
  rw [show (wd :: xs.map itoaB).length = 1 + xs.length by simp; omega] at HK
  clear ho2 hg2 hr2 ho
  go_wp2_with (go_at_call 155; refine HK.out.mono ?_; rintro e w3 ⟨rfl, hb3⟩)
  go_ret
  exact ⟨rfl, hb2.out.trans (hb3.mono hb2.out.size)⟩
end Go.Proofs.YtjgofnbfpoephaaGreatDoor

/- Contracts: the words of a line. -/
namespace Go.Proofs.YtjgofnbfpoephaaGreatDoor
set_option linter.all false
open Go.RowKit
set_option linter.unusedVariables false
set_option linter.unusedSimpArgs false
variable {lb : Nat} {L : List ByteArray}

/-- block g has the words that are left -/
def WdI (lb : Nat) (L : List ByteArray) (g : Nat) (ws : List ByteArray) (W : World) : Prop := Row W lb 9 (strs L) ∧ ∃ rb off c all, Row W g 261 [.slice (some ⟨rb, off, none⟩) ws.length c] ∧ Row W rb 9 (strs all) ∧ (∀ (j : Nat) x, ws[j]? = some x → all[off + j]? = some x) ∧ ws.length ≤ c
theorem Row.ne {W : World} {g g' : Nat} {t t' : TypeId} {us us' : List Value} (h : Row W g t us) (h' : Row W g' t' us') (ht : t ≠ t') : g ≠ g' := by
  intro e; subst e
  unfold Row at h h'
  rw [h] at h'
  cases h'; exact ht rfl
theorem slice_one {P : Program} (t : TypeId) (ht : P.underlying t = some (.slice (P.elem t))) (hs : ∀ w, (sizeOf (P.elem t)).run P w = .ok 1 w) (b off n c : Nat) (hn : 1 ≤ n) (hc : n ≤ c) :
    ∃ A', (∀ W, (Instr.slice t (.slice (some ⟨b, off, none⟩) n c) (some (.int .i64 1)) none none).run P W = .ok (.slice A' (n - 1) (c - 1)) W) ∧ A' = some ⟨b, if c = 1 then off else off + 1, none⟩ := by
  refine ⟨some ⟨b, if c = 1 then off else off + 1, none⟩, fun W => ?_, rfl⟩
  rw [run_slice_l W t (some ⟨b, off, none⟩) n c ht .i64 1 (by omega) (by omega), hs]
  simp only [Result.andThen, sliced, Nat.mul_one]
  by_cases h1 : c = 1
  · subst h1; simp
  · have hne : ¬ c = Int.toNat 1 := by simpa using h1
    rw [if_neg hne, if_neg h1]
    simp [Addr.add]
theorem WdI.old {g : Nat} {ws : List ByteArray} {W W' : World} (h : WdI lb L g ws W) (hb : Below W.heap.size W W') : WdI lb L g ws W' := by
  obtain ⟨h0, rb, off, c, all, h1, h2, h3⟩ := h
  exact ⟨h0.old hb, rb, off, c, all, h1.old hb, h2.old hb, h3⟩
theorem WdI.grown {g : Nat} {ws : List ByteArray} {W W' : World} {row : Option Nat} (h : WdI lb L g ws W) (hg : W.grownBy W' row) (hr : ∀ k t us, Row W k t us → t = 261 ∨ t = 9 → some k ≠ row) : WdI lb L g ws W' := by
  obtain ⟨h0, rb, off, c, all, h1, h2, h3⟩ := h
  exact ⟨h0.grown hg (hr _ _ _ h0 (.inr rfl)), rb, off, c, all, h1.grown hg (hr _ _ _ h1 (.inl rfl)), h2.grown hg (hr _ _ _ h2 (.inr rfl)), h3⟩
/-- words that are not there are empty -/
def headW (ws : List ByteArray) : ByteArray := ws.headD ⟨#[]⟩

set_option maxRecDepth 100000 in
set_option maxHeartbeats 1000000 in
theorem next_any (g : Nat) (ws : List ByteArray) (w : World) (h : WdI lb L g ws w) (hm : ws.length ≤ 1000000) : Calls Tryz.prog 188 #[.pointer (some ⟨g, 0, none⟩)] w fun e w' => e = .returned (.string (headW ws)) ∧ WdI lb L g ws.tail w' ∧ w.grownBy w' (some g) := by
  obtain ⟨hl0, b, off, c, all, hr, hA, hall, hc⟩ := h
  have hlb := hr.ne hl0 (by decide)
  have HL0 := Lib.hid hl0
  clear hl0
  have q0 := hr.cell 0
  have f0 := hr.free 0
  simp only [List.getElem?_cons_zero] at q0
  have HR := Lib.hid hr
  cases ws with
  | nil =>
    have HE : Hid (WdI lb L g [] w) := ⟨HL0.out, b, off, c, all, hr, hA, hall, hc⟩
    clear hr hA hall hc hlb
    go_enter Tryz.func188, Tryz.ntmps188
    go_wp2
    go_ret
    exact ⟨rfl, HE.out, World.grownBy.refl _ _⟩
  | cons x ws =>
    have hx : w.cell? ⟨b, off, none⟩ = some (.string x) := by
      rw [hA.cell]; simp only [strs, List.getElem?_map]; rw [show all[off]? = some x from hall 0 x rfl]; rfl
    obtain ⟨A', hs1, hoff⟩ := slice_one (P := Tryz.prog) 120 (by kernel_rfl) (fun W => by kernel_rfl) b off (ws.length + 1) c (by omega) (by simpa using hc)
    have hn1 : ws.length + 1 - 1 = ws.length := rfl
    rw [hn1] at hs1
    have hgb := hr.ne hA (by decide)
    have HE : Hid (∀ W, w.grownBy W (some g) → Row W g 261 [.slice A' ws.length (c - 1)] → WdI lb L g ws W) := fun W hW h => by
      subst hoff
      have e1 : ws.length ≤ c - 1 := Nat.le_sub_of_add_le hc
      refine ⟨HL0.out.grown hW (fun e => hlb (Option.some.inj e).symm), b, _, c - 1, all, h, hA.grown hW (fun e => hgb (Option.some.inj e).symm), fun j u hu => ?_, e1⟩
      have hj : j < ws.length := (List.getElem?_eq_some_iff.1 hu).1
      rw [if_neg (show ¬ c = 1 by omega), Nat.add_assoc, Nat.add_comm 1 j]
      exact hall (j + 1) u (by simpa using hu)
    have hc2 : ws.length + 1 ≤ c := by simpa using hc
    have hm2 : ws.length + 1 ≤ 1000000 := by simpa using hm
    clear hr hA hall hoff hn1 hc hm hgb hlb
    simp only [List.length_cons] at q0
    go_enter Tryz.func188, Tryz.ntmps188
    go_wp2
    go_ret
    have hgr : w.grownBy (w.setCell ⟨g, 0, none⟩ (.slice A' ws.length (c - 1))) (some g) := ⟨rfl, rfl, rfl, by simp, fun k _ hk => heap_setCell_other _ _ _ _ (fun e => hk (by rw [e]))⟩
    exact ⟨rfl, HE.out _ hgr (HR.out.set 0 _), hgr⟩
end Go.Proofs.YtjgofnbfpoephaaGreatDoor
