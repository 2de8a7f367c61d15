import Derived.Test.YtoclnlimnjnbkaaGreatDoorM22
namespace Go.Proofs.YtoclnlimnjnbkaaGreatDoor
set_option linter.all false
open Go.RowKit Go.Lib Go.Fl
theorem lineB_bl (ws : List ByteArray) : bl (lineB ws) = Lib.join (ws.map bl) [32] ++ [10] := lineB_list ws
theorem suffix_snoc (l : List UInt8) (c : UInt8) : Lib.hasSuffix (l ++ [c]) [c] = true := by
  unfold Lib.hasSuffix
  rw [List.isSuffixOf_iff_suffix]
  exact List.suffix_append l [c]
theorem trim_snoc (l : List UInt8) (c : UInt8) : Lib.trimSuffix (l ++ [c]) [c] = l := by
  unfold Lib.trimSuffix
  rw [suffix_snoc, if_pos rfl]
  simp
theorem ended_snoc {l : ByteArray} {t : List UInt8} (h : bl l = t ++ [10]) : endedL l = true ∧ textL l = lb t := by
  unfold endedL textL
  have h2 : l.data.toList = t ++ [10] := h
  rw [h2, suffix_snoc, trim_snoc]
  exact ⟨rfl, rfl⟩
theorem ended_is {l : ByteArray} (h : endedL l = true) : bl l = bl (textL l) ++ [10] := by
  unfold endedL Lib.hasSuffix at h
  rw [List.isSuffixOf_iff_suffix] at h
  obtain ⟨t, ht⟩ := h
  have h2 : bl l = t ++ [10] := ht.symm
  rw [(ended_snoc h2).2, bl_lb, h2]
theorem line_words {ws : List ByteArray} (h0 : ws ≠ []) (h : ∀ w ∈ ws, (32 : UInt8) ∉ bl w) : endedL (lineB ws) = true ∧ wordsL (textL (lineB ws)) = ws := by
  obtain ⟨h1, h2⟩ := ended_snoc (lineB_bl ws)
  refine ⟨h1, ?_⟩
  rw [h2, wordsL_cut, bl_lb, cutG_of_join (by simpa using h0) (fun w hw => by obtain ⟨v, hv, rfl⟩ := List.mem_map.1 hw; exact h v hv), List.map_map]
  have e2 : (lb ∘ bl) = id := funext lb_bl
  rw [e2, List.map_id]
theorem words_line {l : ByteArray} (h : endedL l = true) : l = lineB (wordsL (textL l)) := by
  have h1 := ended_is h
  have h2 : bl (lineB (wordsL (textL l))) = bl l := by
    rw [lineB_bl, wordsL_cut, List.map_map]
    have e2 : (bl ∘ lb) = id := funext bl_lb
    rw [e2, List.map_id, cutG_join, h1]
  have h3 := congrArg lb h2
  rw [lb_bl, lb_bl] at h3
  exact h3.symm
theorem lastE_map {l : List (List UInt8)} {a : List UInt8} : ((l ++ [a]).map lb).getLastD ⟨#[]⟩ = lb a := by simp
theorem emp_lb (a : List UInt8) : (lb a).toList.isEmpty = a.isEmpty := by rw [ByteArray.toList_eq]; rfl
theorem linesL_of {ls : List (List UInt8)} (h : ∀ l ∈ ls, (10 : UInt8) ∉ l) {s : ByteArray} (hs : bl s = ls.flatMap fun l => l ++ [10]) : linesL s = ls.map fun l => lb (l ++ [10]) := by
  have hA : linesA s = ((ls.map fun l => l ++ [10]) ++ [[]]).map lb := by rw [linesA_cut, hs, cutG_lines h]
  have hE : lastE s = true := by unfold lastE; rw [hA, lastE_map, emp_lb]; rfl
  unfold linesL
  rw [hE, cond_true, hA, List.map_append, List.map_cons, List.map_nil, List.dropLast_concat, List.map_map]
  rfl
theorem cutG_lines2 {c : UInt8} {a : List UInt8} (ha : c ∉ a) : ∀ {ls : List (List UInt8)}, (∀ l ∈ ls, c ∉ l) → cutG c 1 ((ls.flatMap fun l => l ++ [c]) ++ a) = (ls.map fun l => l ++ [c]) ++ [a]
  | [], _ => cutG_no ha
  | l :: ls, h => by
    have e : ((l :: ls).flatMap fun l => l ++ [c]) ++ a = l ++ c :: ((ls.flatMap fun l => l ++ [c]) ++ a) := by simp
    rw [e, cutG_app _ (h l List.mem_cons_self), cutG_lines2 ha fun x hx => h x (List.mem_cons_of_mem _ hx)]
    rfl
theorem linesL_cut {ls : List (List UInt8)} {a : List UInt8} (h : ∀ l ∈ ls, (10 : UInt8) ∉ l) (ha : (10 : UInt8) ∉ a) (h0 : a ≠ []) {s : ByteArray} (hs : bl s = (ls.flatMap fun l => l ++ [10]) ++ a) : linesL s = (ls.map fun l => lb (l ++ [10])) ++ [lb a] := by
  have hA : linesA s = ((ls.map fun l => l ++ [10]) ++ [a]).map lb := by rw [linesA_cut, hs, cutG_lines2 ha h]
  have hE : lastE s = false := by
    unfold lastE; rw [hA, lastE_map, emp_lb]
    cases a with
    | nil => exact absurd rfl h0
    | cons x a => rfl
  unfold linesL
  rw [hE, cond_false, hA, List.map_append, List.map_cons, List.map_nil, List.map_map]
  rfl
theorem flat_lines (s : ByteArray) : flatC (linesL s) = bl s := by
  have hA := linesA_cut s
  have hf : flatC (linesA s) = bl s := by
    rw [hA]
    unfold flatC
    rw [List.flatMap_map]
    show (cutG 10 1 (bl s)).flatMap (fun l => l) = _
    rw [List.flatMap_id', cutG_flat]
  unfold linesL
  cases he : lastE s
  · exact hf
  · rw [cond_true]
    have hne : linesA s ≠ [] := by rw [hA]; simpa using cutG_ne 10 1 (bl s)
    have e := List.dropLast_concat_getLast hne
    have hl : ((linesA s).getLast hne).data.toList = [] := by
      unfold lastE at he
      rw [List.getLastD_eq_getLast?, List.getLast?_eq_some_getLast hne, Option.getD_some, ByteArray.toList_eq] at he
      exact List.isEmpty_iff.1 he
    rw [← hf]
    conv => rhs; rw [← e]
    unfold flatC
    rw [List.flatMap_append, List.flatMap_cons, hl]; simp
theorem bl_w : (32 : UInt8) ∉ bl wRec ∧ (32 : UInt8) ∉ bl wMark ∧ (32 : UInt8) ∉ bl wSamp ∧ (10 : UInt8) ∉ bl wRec ∧ (10 : UInt8) ∉ bl wMark ∧ (10 : UInt8) ∉ bl wSamp := by decide
theorem itoaB_no {n : Int} {c : UInt8} (hc : c.toNat < 45) : c ∉ bl (itoaB n) := itoa_no hc
theorem eqW_self (k : ByteArray) : eqW k k = true := by unfold eqW; simp
theorem eqW_is {k w : ByteArray} (h : eqW k w = true) : w = k := by
  unfold eqW at h
  rw [beq_iff_eq, ByteArray.toList_eq, ByteArray.toList_eq] at h
  have h2 : bl k = bl w := h
  have h3 := congrArg lb h2
  rw [lb_bl, lb_bl] at h3
  exact h3.symm
theorem eqW_rm : eqW wRec wMark = false := by decide +kernel
theorem eqW_rs : eqW wRec wSamp = false := by decide +kernel
theorem eqW_ms : eqW wMark wSamp = false := by decide +kernel
theorem step_head {st sp : Int} (S : PaS) (h1 : 0 ≤ st ∧ st ≤ 999999999) (h2 : 0 ≤ sp ∧ sp ≤ 999999999) : stepR 0 S (numLineB wRec [st, sp]) = (true, (st, sp, S.2.2.1, S.2.2.2)) := by
  obtain ⟨e1, e2⟩ := line_words (ws := [wRec, itoaB st, itoaB sp]) (by simp) (fun w hw => by
    simp only [List.mem_cons, List.not_mem_nil, or_false] at hw
    rcases hw with rfl | rfl | rfl
    · exact bl_w.1
    · exact itoaB_no (by decide)
    · exact itoaB_no (by decide))
  have el : numLineB wRec [st, sp] = lineB [wRec, itoaB st, itoaB sp] := rfl
  obtain ⟨a1, a2⟩ := count_of h1.1 h1.2
  obtain ⟨b1, b2⟩ := count_of h2.1 h2.2
  unfold stepR
  rw [el, e1, if_pos rfl, e2]
  unfold lineR
  have hw : headW [wRec, itoaB st, itoaB sp] = wRec := rfl
  rw [hw, eqW_self]
  rw [if_pos (by decide)]
  have t1 : (itoaB st).data.toList = itoa st := rfl
  have t2 : (itoaB sp).data.toList = itoa sp := rfl
  show ((countOk (itoaB st).data.toList && countOk (itoaB sp).data.toList) && true, (countV (itoaB st).data.toList, countV (itoaB sp).data.toList, S.2.2.1, S.2.2.2)) = _
  rw [t1, t2, a1, a2, b1, b2]; rfl
theorem step_mark {i : Int} (hi : 0 < i) {S : PaS} (hS : S.2.2.1 = []) {p : Int × ByteArray} (h1 : 0 ≤ p.1 ∧ p.1 ≤ 999999999) (h2 : (32 : UInt8) ∉ bl p.2) (h3 : bl p.2 ≠ []) : stepR i S (markB p) = (true, (S.1, S.2.1, S.2.2.1, S.2.2.2 ++ [p])) := by
  obtain ⟨e1, e2⟩ := line_words (ws := [wMark, itoaB p.1, p.2]) (by simp) (fun w hw => by
    simp only [List.mem_cons, List.not_mem_nil, or_false] at hw
    rcases hw with rfl | rfl | rfl
    · exact bl_w.2.1
    · exact itoaB_no (by decide)
    · exact h2)
  have el : markB p = lineB [wMark, itoaB p.1, p.2] := rfl
  obtain ⟨a1, a2⟩ := count_of h1.1 h1.2
  have hfit : fit1 i S = true := by unfold fit1; rw [hS, decide_eq_true hi]; rfl
  unfold stepR
  rw [el, e1, if_pos rfl, e2]
  unfold lineR
  have hw : headW [wMark, itoaB p.1, p.2] = wMark := rfl
  rw [hw, eqW_self, eqW_rm, hfit]
  rw [if_neg (by simp), if_pos (by decide)]
  have t1 : (itoaB p.1).data.toList = itoa p.1 := rfl
  have t3 : p.2.toList.isEmpty = false := by
    rw [ByteArray.toList_eq]
    cases hb : p.2.data.toList with
    | nil => exact absurd hb h3
    | cons a l => rfl
  show ((countOk (itoaB p.1).data.toList && !p.2.toList.isEmpty) && true, (S.1, S.2.1, S.2.2.1, S.2.2.2 ++ [(countV (itoaB p.1).data.toList, p.2)])) = _
  rw [t1, t3, a1, a2]; rfl
theorem step_samp {i : Int} (hi : 0 < i) (S : PaS) {n : Int} (hn : n.natAbs ≤ 999999999) : stepR i S (numLineB wSamp [n]) = (true, (S.1, S.2.1, S.2.2.1 ++ [fb n], S.2.2.2)) := by
  obtain ⟨e1, e2⟩ := line_words (ws := [wSamp, itoaB n]) (by simp) (fun w hw => by
    simp only [List.mem_cons, List.not_mem_nil, or_false] at hw
    rcases hw with rfl | rfl
    · exact bl_w.2.2.1
    · exact itoaB_no (by decide))
  have el : numLineB wSamp [n] = lineB [wSamp, itoaB n] := rfl
  obtain ⟨a1, a2⟩ := int_ok hn
  have hfit : fit2 i = true := decide_eq_true hi
  unfold stepR
  rw [el, e1, if_pos rfl, e2]
  unfold lineR
  have hw : headW [wSamp, itoaB n] = wSamp := rfl
  rw [hw, eqW_self, eqW_rs, eqW_ms, hfit]
  rw [if_neg (by simp), if_neg (by simp), if_pos (by decide)]
  have t1 : (itoaB n).data.toList = itoa n := rfl
  show (intOk (itoaB n).data.toList && true, (S.1, S.2.1, S.2.2.1 ++ [fb (intV (itoaB n).data.toList)], S.2.2.2)) = _
  rw [t1, a1, a2]; rfl
theorem words3 {ws : List ByteArray} (h : (headW ws.tail.tail).data.toList ≠ []) (h4 : ws.tail.tail.tail.isEmpty = true) : ws = [headW ws, headW ws.tail, headW ws.tail.tail] := by
  match ws, h, h4 with
  | [], h, _ => exact absurd rfl h
  | [_], h, _ => exact absurd rfl h
  | [_, _], h, _ => exact absurd rfl h
  | [_, _, _], _, _ => rfl
  | _ :: _ :: _ :: _ :: _, _, h4 => cases h4
theorem words2 {ws : List ByteArray} (h : (headW ws.tail).data.toList ≠ []) (h4 : ws.tail.tail.isEmpty = true) : ws = [headW ws, headW ws.tail] := by
  match ws, h, h4 with
  | [], h, _ => exact absurd rfl h
  | [_], h, _ => exact absurd rfl h
  | [_, _], _, _ => rfl
  | _ :: _ :: _ :: _, _, h4 => cases h4
theorem count_ne {l : List UInt8} (h : countOk l = true) : l ≠ [] := by
  intro e; subst e; cases h
theorem int_ne {l : List UInt8} (h : intOk l = true) : l ≠ [] := by
  intro e; subst e; exact absurd h (by decide)
theorem countB {w : ByteArray} (h : countOk w.data.toList = true) : itoaB (countV w.data.toList) = w := by
  have := count_itoa h
  show lb (itoa _) = w
  rw [this]; exact lb_bl w
theorem intB {w : ByteArray} (h : intOk w.data.toList = true) : itoaB (intV w.data.toList) = w := by
  have := int_itoa h
  show lb (itoa _) = w
  rw [this]; exact lb_bl w
theorem is_head {ws : List ByteArray} (hw : headW ws = wRec) (h3 : headOk ws.tail = true) (h4 : ws.tail.tail.tail.isEmpty = true) : lineB ws = numLineB wRec [countV (headW ws.tail).data.toList, countV (headW ws.tail.tail).data.toList] := by
  unfold headOk at h3
  rw [Bool.and_eq_true] at h3
  have e := words3 (count_ne h3.2) h4
  obtain ⟨a, ha⟩ : ∃ a, a = headW ws.tail := ⟨_, rfl⟩
  obtain ⟨b, hb⟩ : ∃ b, b = headW ws.tail.tail := ⟨_, rfl⟩
  rw [← ha, ← hb] at h3
  rw [← ha, ← hb]
  rw [hw, ← ha, ← hb] at e
  rw [e]
  show lineB [wRec, a, b] = lineB [wRec, itoaB (countV a.data.toList), itoaB (countV b.data.toList)]
  rw [countB h3.1, countB h3.2]
theorem is_mark {ws : List ByteArray} (hw : headW ws = wMark) (h3 : markOk ws.tail = true) (h4 : ws.tail.tail.tail.isEmpty = true) : lineB ws = markB (countV (headW ws.tail).data.toList, headW ws.tail.tail) := by
  unfold markOk at h3
  rw [Bool.and_eq_true] at h3
  have hn : (headW ws.tail.tail).data.toList ≠ [] := by
    intro e0
    have h5 := h3.2
    rw [ByteArray.toList_eq, e0] at h5
    cases h5
  have e := words3 hn h4
  obtain ⟨a, ha⟩ : ∃ a, a = headW ws.tail := ⟨_, rfl⟩
  obtain ⟨b, hb⟩ : ∃ b, b = headW ws.tail.tail := ⟨_, rfl⟩
  have h31 := h3.1
  rw [← ha] at h31
  rw [← ha, ← hb]
  rw [hw, ← ha, ← hb] at e
  rw [e]
  show lineB [wMark, a, b] = lineB [wMark, itoaB (countV a.data.toList), b]
  rw [countB h31]
theorem is_samp {ws : List ByteArray} (hw : headW ws = wSamp) (h3 : sampOk ws.tail = true) (h4 : ws.tail.tail.isEmpty = true) : lineB ws = numLineB wSamp [intV (headW ws.tail).data.toList] := by
  unfold sampOk at h3
  have e := words2 (int_ne h3) h4
  obtain ⟨a, ha⟩ : ∃ a, a = headW ws.tail := ⟨_, rfl⟩
  rw [← ha] at h3
  rw [← ha]
  rw [hw, ← ha] at e
  rw [e]
  show lineB [wSamp, a] = lineB [wSamp, itoaB (intV a.data.toList)]
  rw [intB h3]
theorem step_is {i : Int} {S S' : PaS} {l : ByteArray} (h : stepR i S l = (true, S')) :
    (i = 0 ∧ ∃ a b : Int, l = numLineB wRec [a, b] ∧ S' = (a, b, S.2.2.1, S.2.2.2)) ∨
    (0 < i ∧ S.2.2.1 = [] ∧ ∃ p : Int × ByteArray, l = markB p ∧ S' = (S.1, S.2.1, S.2.2.1, S.2.2.2 ++ [p])) ∨
    (0 < i ∧ ∃ n : Int, n.natAbs < 2 ^ 30 ∧ l = numLineB wSamp [n] ∧ S' = (S.1, S.2.1, S.2.2.1 ++ [fb n], S.2.2.2)) := by
  unfold stepR at h
  by_cases he : endedL l = true
  · rw [if_pos he] at h
    have hl := words_line he
    obtain ⟨ws, hws⟩ : ∃ ws, ws = wordsL (textL l) := ⟨_, rfl⟩
    rw [← hws] at h hl
    have h1 : ((lineR i S ws).1 && (lineR i S ws).2.2.isEmpty) = true := congrArg (·.1) h
    have h2 : (lineR i S ws).2.1 = S' := congrArg (·.2) h
    rw [Bool.and_eq_true] at h1
    obtain ⟨h3, h4⟩ := h1
    unfold lineR at h2 h3 h4
    by_cases c1 : (eqW wRec (headW ws) && fit0 i) = true
    · rw [if_pos c1] at h2 h3 h4
      rw [Bool.and_eq_true] at c1
      exact .inl ⟨of_decide_eq_true c1.2, _, _, hl.trans (is_head (eqW_is c1.1) h3 h4), h2.symm⟩
    · rw [if_neg c1] at h2 h3 h4
      by_cases c2 : (eqW wMark (headW ws) && fit1 i S) = true
      · rw [if_pos c2] at h2 h3 h4
        rw [Bool.and_eq_true] at c2
        have hf := c2.2
        unfold fit1 at hf
        rw [Bool.and_eq_true, decide_eq_true_eq, decide_eq_true_eq] at hf
        exact .inr (.inl ⟨hf.1, List.eq_nil_of_length_eq_zero hf.2, _, hl.trans (is_mark (eqW_is c2.1) h3 h4), h2.symm⟩)
      · rw [if_neg c2] at h2 h3 h4
        by_cases c3 : (eqW wSamp (headW ws) && fit2 i) = true
        · rw [if_pos c3] at h2 h3 h4
          rw [Bool.and_eq_true] at c3
          have hb := intV_bd (headW ws.tail).data.toList
          obtain ⟨n, hn⟩ : ∃ n, n = intV (headW ws.tail).data.toList := ⟨_, rfl⟩
          rw [← hn] at hb
          refine .inr (.inr ⟨of_decide_eq_true c3.2, n, by omega, ?_, ?_⟩)
          · rw [hn]; exact hl.trans (is_samp (eqW_is c3.1) h3 h4)
          · rw [hn]; exact h2.symm
        · rw [if_neg c3] at h3
          cases h3
  · rw [if_neg he] at h
    have h1 : false = true := congrArg (·.1) h
    cases h1
def sampN (n : Int) : ByteArray := numLineB wSamp [n]
def okM (p : Int × ByteArray) : Prop := (0 ≤ p.1 ∧ p.1 ≤ 999999999) ∧ (32 : UInt8) ∉ bl p.2 ∧ (10 : UInt8) ∉ bl p.2 ∧ bl p.2 ≠ []
theorem go_cons {i : Nat} {S S' : PaS} {l : ByteArray} (h : stepR i S l = (true, S')) (r : List ByteArray) : linesGo i S (l :: r) = linesGo (i + 1) S' r := by
  show (if (stepR i S l).1 then _ else _) = _
  rw [h]; rfl
theorem go_marks : ∀ (ms : List (Int × ByteArray)) (i : Nat) (S : PaS) (rest : List ByteArray), 0 < i → S.2.2.1 = [] → (∀ p ∈ ms, okM p) → linesGo i S (ms.map markB ++ rest) = linesGo (i + ms.length) (S.1, S.2.1, S.2.2.1, S.2.2.2 ++ ms) rest
  | [], i, S, rest, _, _, _ => by simp
  | p :: ms, i, S, rest, hi, hS, h => by
    have hp := h p List.mem_cons_self
    have ih := go_marks ms (i + 1) (S.1, S.2.1, S.2.2.1, S.2.2.2 ++ [p]) rest (by omega) hS fun q hq => h q (List.mem_cons_of_mem _ hq)
    rw [List.map_cons, List.cons_append, go_cons (step_mark (by omega) hS hp.1 hp.2.1 hp.2.2.2), ih]
    rw [List.length_cons, show i + 1 + ms.length = i + (ms.length + 1) by omega]
    simp
theorem go_samps : ∀ (ns : List Int) (i : Nat) (S : PaS) (rest : List ByteArray), 0 < i → (∀ n ∈ ns, n.natAbs ≤ 999999999) → linesGo i S (ns.map sampN ++ rest) = linesGo (i + ns.length) (S.1, S.2.1, S.2.2.1 ++ ns.map fb, S.2.2.2) rest
  | [], i, S, rest, _, _ => by simp
  | n :: ns, i, S, rest, hi, h => by
    have ih := go_samps ns (i + 1) (S.1, S.2.1, S.2.2.1 ++ [fb n], S.2.2.2) rest (by omega) fun q hq => h q (List.mem_cons_of_mem _ hq)
    have hs : stepR i S (sampN n) = (true, (S.1, S.2.1, S.2.2.1 ++ [fb n], S.2.2.2)) := step_samp (by omega) S (h n List.mem_cons_self)
    rw [List.map_cons, List.cons_append, go_cons hs, ih]
    rw [List.length_cons, show i + 1 + ns.length = i + (ns.length + 1) by omega]
    simp
theorem name_okM {p : Int × ByteArray} (h1 : 0 ≤ p.1 ∧ p.1 ≤ 999999999) (h : nameL p.2.data.toList = true) : okM p := by
  unfold nameL at h
  simp only [Bool.and_eq_true, Bool.not_eq_true', decide_eq_true_eq] at h
  obtain ⟨⟨⟨h2, -⟩, -⟩, h4⟩ := h
  have no : ∀ c : UInt8, okc (u8I c) = false → c ∉ bl p.2 := fun c hc hm => by
    have := List.all_eq_true.1 h4 c hm
    rw [hc] at this; cases this
  exact ⟨h1, no 32 (by decide), no 10 (by decide), fun e => by
    have e2 : p.2.data.toList = [] := e
    rw [e2] at h2; cases h2⟩
theorem go_print {st sp : Int} {xs : List Nat} {ms : List (Int × ByteArray)} (h : GoodR st sp xs ms) : linesGo 0 zeroS (printLs st sp xs ms) = (1 + ms.length + xs.length, true, (st, sp, xs.map (fun x => fb (unitI x)), ms)) := by
  have h1 := h.start; have h2 := h.step; have h3 := h.many
  have e : printLs st sp xs ms = numLineB wRec [st, sp] :: (ms.map markB ++ ((xs.map unitI).map sampN ++ [])) := by
    rw [List.append_nil, List.map_map]; rfl
  rw [e, go_cons (step_head zeroS (by omega) (by omega)), go_marks ms _ _ _ (by omega) rfl fun p hp => by
      have hm := h.mark p hp
      exact name_okM (by omega) hm.2,
    go_samps (xs.map unitI) _ _ [] (by omega) fun n hn => by
      obtain ⟨x, hx, rfl⟩ := List.mem_map.1 hn
      have := unitI_bd (h.samp x hx)
      omega]
  show (0 + 1 + ms.length + (xs.map unitI).length, true, (st, sp, [] ++ (xs.map unitI).map fb, [] ++ ms)) = _
  rw [List.length_map, List.nil_append, List.nil_append, List.map_map]
  rw [show 0 + 1 + ms.length + xs.length = 1 + ms.length + xs.length by omega]
  rfl
theorem line_lf {ws : List ByteArray} (h : ∀ w ∈ ws, (10 : UInt8) ∉ bl w) : ∃ t : List UInt8, bl (lineB ws) = t ++ [10] ∧ (10 : UInt8) ∉ t := by
  refine ⟨_, lineB_bl ws, ?_⟩
  have : ∀ vs : List (List UInt8), (∀ v ∈ vs, (10 : UInt8) ∉ v) → (10 : UInt8) ∉ Lib.join vs [32] := by
    intro vs
    induction vs with
    | nil => intro _; simp [Lib.join]
    | cons a r ih =>
      intro hv
      cases r with
      | nil =>
        have e : Lib.join [a] [32] = a := by simp [Lib.join]
        rw [e]; exact hv a List.mem_cons_self
      | cons b r =>
        rw [join_cons2]
        intro hm
        rcases List.mem_append.1 hm with h1 | h1
        · rcases List.mem_append.1 h1 with h2 | h2
          · exact hv a List.mem_cons_self h2
          · simp at h2
        · exact ih (fun v hv2 => hv v (List.mem_cons_of_mem _ hv2)) h1
  refine this _ fun v hv => ?_
  obtain ⟨w, hw, rfl⟩ := List.mem_map.1 hv
  exact h w hw
theorem print_lf {st sp : Int} {xs : List Nat} {ms : List (Int × ByteArray)} (h : GoodR st sp xs ms) : ∀ l ∈ printLs st sp xs ms, ∃ t : List UInt8, bl l = t ++ [10] ∧ (10 : UInt8) ∉ t := by
  intro l hl
  rcases List.mem_cons.1 hl with rfl | hl
  · refine line_lf fun w hw => ?_
    have hw2 : w = wRec ∨ w = itoaB st ∨ w = itoaB sp := by simpa using hw
    rcases hw2 with rfl | rfl | rfl
    · exact bl_w.2.2.2.1
    · exact itoaB_no (by decide)
    · exact itoaB_no (by decide)
  · rcases List.mem_append.1 hl with hl | hl
    · obtain ⟨p, hp, rfl⟩ := List.mem_map.1 hl
      have hm := h.mark p hp
      have h3 := h.many
      have hk := name_okM (p := p) (by omega) hm.2
      refine line_lf fun w hw => ?_
      have hw2 : w = wMark ∨ w = itoaB p.1 ∨ w = p.2 := by simpa using hw
      rcases hw2 with rfl | rfl | rfl
      · exact bl_w.2.2.2.2.1
      · exact itoaB_no (by decide)
      · exact hk.2.2.1
    · obtain ⟨x, hx, rfl⟩ := List.mem_map.1 hl
      refine line_lf fun w hw => ?_
      have hw2 : w = wSamp ∨ w = itoaB (unitI x) := by simpa using hw
      rcases hw2 with rfl | rfl
      · exact bl_w.2.2.2.2.2
      · exact itoaB_no (by decide)
theorem bodies : ∀ {ls : List ByteArray}, (∀ l ∈ ls, ∃ t : List UInt8, bl l = t ++ [10] ∧ (10 : UInt8) ∉ t) → ∃ bs : List (List UInt8), ls = bs.map (fun b => lb (b ++ [10])) ∧ ∀ b ∈ bs, (10 : UInt8) ∉ b
  | [], _ => ⟨[], rfl, fun b hb => by cases hb⟩
  | l :: ls, h => by
    obtain ⟨t, h1, h2⟩ := h l List.mem_cons_self
    obtain ⟨bs, h3, h4⟩ := bodies (ls := ls) fun x hx => h x (List.mem_cons_of_mem _ hx)
    refine ⟨t :: bs, ?_, fun b hb => ?_⟩
    · rw [List.map_cons, ← h1, lb_bl, ← h3]
    · rcases List.mem_cons.1 hb with rfl | hb
      · exact h2
      · exact h4 b hb
theorem flatC_bodies (bs : List (List UInt8)) : flatC (bs.map fun b => lb (b ++ [10])) = bs.flatMap fun b => b ++ [10] := by
  unfold flatC
  rw [List.flatMap_map]; rfl
theorem print_lines {st sp : Int} {xs : List Nat} {ms : List (Int × ByteArray)} (h : GoodR st sp xs ms) : linesL (lb (printL st sp xs ms)) = printLs st sp xs ms := by
  obtain ⟨bs, h1, h2⟩ := bodies (print_lf h)
  have h3 : bl (lb (printL st sp xs ms)) = bs.flatMap fun b => b ++ [10] := by
    rw [bl_lb]
    unfold printL
    rw [h1, flatC_bodies]
  rw [linesL_of h2 h3, h1]
theorem print_pieces {st sp : Int} {xs : List Nat} {ms : List (Int × ByteArray)} (h : GoodR st sp xs ms) : (cutG 10 0 (printL st sp xs ms)).length = xs.length + ms.length + 2 := by
  obtain ⟨bs, h1, h2⟩ := bodies (print_lf h)
  have h3 : printL st sp xs ms = bs.flatMap fun b => b ++ [10] := by
    unfold printL
    rw [h1, flatC_bodies]
  have h4 : ∀ cs : List (List UInt8), (∀ b ∈ cs, (10 : UInt8) ∉ b) → (cutG 10 0 (cs.flatMap fun b => b ++ [10])).length = cs.length + 1 := by
    intro cs
    induction cs with
    | nil => intro _; rfl
    | cons b cs ih =>
      intro hb
      have e : ((b :: cs).flatMap fun b => b ++ [10]) = b ++ 10 :: (cs.flatMap fun b => b ++ [10]) := by simp
      rw [e, cutG_app _ (hb b List.mem_cons_self), List.length_cons, ih fun x hx => hb x (List.mem_cons_of_mem _ hx)]; rfl
  rw [h3, h4 bs h2]
  have h5 := congrArg List.length h1
  rw [List.length_map] at h5
  rw [← h5]
  unfold printLs
  simp only [List.length_cons, List.length_append, List.length_map]
  omega
theorem go_is : ∀ (ls : List ByteArray) (i : Nat) (S S' : PaS) (k : Nat) (ns : List Int), 0 < i → S.2.2.1 = ns.map fb → linesGo i S ls = (k, true, S') →
    ∃ (ms : List (Int × ByteArray)) (js : List Int), S' = (S.1, S.2.1, (ns ++ js).map fb, S.2.2.2 ++ ms) ∧ ls = ms.map markB ++ js.map sampN ∧ (ns ≠ [] → ms = []) ∧ (∀ n ∈ js, n.natAbs < 2 ^ 30) ∧ k = i + ls.length
  | [], i, S, S', k, ns, _, hS, h => by
    have h1 : (i, true, S) = (k, true, S') := h
    injection h1 with h2 h3
    injection h3 with _ h4
    refine ⟨[], [], ?_, rfl, fun _ => rfl, (fun n hn => by cases hn), h2.symm⟩
    rw [List.append_nil, List.append_nil, ← hS, ← h4]
  | l :: ls, i, S, S', k, ns, hi, hS, h => by
    by_cases hst : (stepR i S l).1 = true
    · obtain ⟨T, hT⟩ : ∃ T, stepR i S l = (true, T) := ⟨(stepR i S l).2, by rw [← hst]⟩
      rw [go_cons hT] at h
      rcases step_is hT with ⟨h0, _⟩ | ⟨_, hn, p, hl, rfl⟩ | ⟨_, n, hn, hl, rfl⟩
      · omega
      · have hns : ns = [] := by
          rw [hn] at hS
          exact List.map_eq_nil_iff.1 hS.symm
        subst hns
        obtain ⟨ms, js, e1, e2, -, e4, e5⟩ := go_is ls (i + 1) (S.1, S.2.1, S.2.2.1, S.2.2.2 ++ [p]) S' k [] (by omega) hS h
        refine ⟨p :: ms, js, ?_, ?_, fun h => absurd rfl h, e4, ?_⟩
        · rw [e1]; simp
        · rw [hl, e2]; rfl
        · rw [e5, List.length_cons]; omega
      · obtain ⟨ms, js, e1, e2, e3, e4, e5⟩ := go_is ls (i + 1) (S.1, S.2.1, S.2.2.1 ++ [fb n], S.2.2.2) S' k (ns ++ [n]) (by omega) (by show S.2.2.1 ++ [fb n] = _; rw [hS]; simp) h
        have hms := e3 (by simp)
        subst hms
        refine ⟨[], n :: js, ?_, ?_, fun _ => rfl, ?_, ?_⟩
        · rw [e1]; simp
        · rw [hl, e2]; rfl
        · intro m hm
          rcases List.mem_cons.1 hm with rfl | hm
          · exact hn
          · exact e4 m hm
        · rw [e5, List.length_cons]; omega
    · exfalso
      have h1 : linesGo i S (l :: ls) = (i, false, (stepR i S l).2) := by
        show (if (stepR i S l).1 then _ else _) = _
        rw [if_neg hst]
      rw [h1] at h
      injection h with _ h3
      injection h3 with h4 _
      cases h4
theorem parsed_printed {s : ByteArray} {n : Nat} {st sp : Int} {xs : List Nat} {ms : List (Int × ByteArray)} (h : linesGo 0 zeroS (linesL s) = (n + 1, true, (st, sp, xs, ms))) (h0 : recI st sp xs ms = 0) : lb (printL st sp xs ms) = s := by
  have hg := goodR_of h0
  have key : linesL s = printLs st sp xs ms := by
    cases hl : linesL s with
    | nil =>
      rw [hl] at h
      have h1 : ((0 : Nat), true, zeroS) = (n + 1, true, (st, sp, xs, ms)) := h
      injection h1 with h2 _
      cases h2
    | cons l ls =>
      rw [hl] at h
      by_cases hst : (stepR ((0 : Nat) : Int) zeroS l).1 = true
      · obtain ⟨T, hT⟩ : ∃ T, stepR ((0 : Nat) : Int) zeroS l = (true, T) := ⟨(stepR ((0 : Nat) : Int) zeroS l).2, by rw [← hst]⟩
        rw [go_cons hT] at h
        rcases step_is hT with ⟨_, a, b, hl, rfl⟩ | ⟨h0, _⟩ | ⟨h0, _⟩
        · obtain ⟨ms', js, e1, e2, -, e4, -⟩ := go_is ls (0 + 1) _ _ _ [] (by omega) rfl h
          injection e1 with e5 e6
          injection e6 with e6 e7
          injection e7 with e7 e8
          have e8' : ms = ms' := by rw [e8]; rfl
          have e7' : xs = js.map fb := by rw [e7]; rfl
          have hu : ∀ n ∈ js, unitI (fb n) = n := fun n hn => unit_fb (e4 n hn) (hg.samp (fb n) (by rw [e7']; exact List.mem_map.2 ⟨n, hn, rfl⟩))
          rw [hl, e2, e5, e6, e8', e7']
          unfold printLs
          rw [List.map_map]
          congr 2
          refine List.map_congr_left fun n hn => ?_
          show sampN n = sampB (fb n)
          unfold sampB
          rw [hu n hn]; rfl
        · cases h0
        · cases h0
      · exfalso
        have h1 : linesGo 0 zeroS (l :: ls) = (0, false, (stepR ((0 : Nat) : Int) zeroS l).2) := by
          show (if (stepR ((0 : Nat) : Int) zeroS l).1 then _ else _) = _
          rw [if_neg hst]
        rw [h1] at h
        injection h with h2 _
        cases h2
  unfold printL
  rw [← key, flat_lines, lb_bl]
theorem print_cut {st sp : Int} {xs : List Nat} {ms : List (Int × ByteArray)} (h : GoodR st sp xs ms) : ∃ S, linesGo 0 zeroS (linesL (lb ((printL st sp xs ms).take ((printL st sp xs ms).length - 1)))) = (xs.length + ms.length, false, S) := by
  obtain ⟨bs, h1, h2⟩ := bodies (print_lf h)
  have h3 : printL st sp xs ms = bs.flatMap fun b => b ++ [10] := by
    unfold printL
    rw [h1, flatC_bodies]
  have hbl : bs.length = xs.length + ms.length + 1 := by
    have h5 := congrArg List.length h1
    rw [List.length_map] at h5
    rw [← h5]
    unfold printLs
    simp only [List.length_cons, List.length_append, List.length_map]
    omega
  have hne : bs ≠ [] := by intro e; rw [e] at hbl; simp at hbl
  have e := List.dropLast_concat_getLast hne
  obtain ⟨a, ha⟩ : ∃ a, a = bs.getLast hne := ⟨_, rfl⟩
  obtain ⟨cs, hcs⟩ : ∃ cs, cs = bs.dropLast := ⟨_, rfl⟩
  rw [← ha, ← hcs] at e
  have hcl : cs.length = xs.length + ms.length := by rw [hcs, List.length_dropLast, hbl]; omega
  have ht : (printL st sp xs ms).take ((printL st sp xs ms).length - 1) = (cs.flatMap fun b => b ++ [10]) ++ a := by
    have e2 : printL st sp xs ms = ((cs.flatMap fun b => b ++ [10]) ++ a) ++ [10] := by rw [h3, ← e]; simp
    rw [e2, List.length_append, List.length_singleton, Nat.add_sub_cancel, List.take_left]
  have ha10 : (10 : UInt8) ∉ a := h2 a (by rw [ha]; exact List.getLast_mem hne)
  have hgo := go_print h
  rw [h1, ← e, List.map_append, List.map_cons, List.map_nil] at hgo
  have split : ∀ (ls : List ByteArray) (i : Nat) (S : PaS) (l : ByteArray) (k : Nat) (S' : PaS), linesGo i S (ls ++ [l]) = (k, true, S') → ∃ T, linesGo i S ls = (i + ls.length, true, T) ∧ (∀ l', linesGo i S (ls ++ [l']) = linesGo (i + ls.length) T [l']) := by
    intro ls
    induction ls with
    | nil => intro i S l k S' _; exact ⟨S, rfl, fun l' => rfl⟩
    | cons x ls ih =>
      intro i S l k S' hx
      by_cases hst : (stepR i S x).1 = true
      · obtain ⟨T, hT⟩ : ∃ T, stepR i S x = (true, T) := ⟨(stepR i S x).2, by rw [← hst]⟩
        rw [List.cons_append, go_cons hT] at hx
        obtain ⟨U, u1, u2⟩ := ih (i + 1) T l k S' hx
        refine ⟨U, ?_, fun l' => ?_⟩
        · rw [go_cons hT, u1, List.length_cons, show i + 1 + ls.length = i + (ls.length + 1) by omega]
        · rw [List.cons_append, go_cons hT, u2, List.length_cons, show i + 1 + ls.length = i + (ls.length + 1) by omega]
      · exfalso
        have h1 : linesGo i S (x :: (ls ++ [l])) = (i, false, (stepR i S x).2) := by
          show (if (stepR i S x).1 then _ else _) = _
          rw [if_neg hst]
        rw [List.cons_append, h1] at hx
        injection hx with _ h3
        injection h3 with h4 _
        cases h4
  obtain ⟨T, t1, t2⟩ := split _ _ _ _ _ _ hgo
  have hls : linesL (lb ((printL st sp xs ms).take ((printL st sp xs ms).length - 1))) = (cs.map fun b => lb (b ++ [10])) ++ [lb a] ∨ a = [] := by
    by_cases h0 : a = []
    · exact .inr h0
    · exact .inl (linesL_cut (fun l hl => h2 l (by rw [← e]; exact List.mem_append_left _ hl)) ha10 h0 (by rw [bl_lb]; exact ht))
  have hend : endedL (lb a) = false := by
    cases hx : endedL (lb a) with
    | false => rfl
    | true =>
      exfalso
      have h5 := ended_is hx
      rw [bl_lb] at h5
      exact ha10 (by rw [h5]; simp)
  have hstep : stepR ((0 + (cs.map fun b => lb (b ++ [10])).length : Nat) : Int) T (lb a) = (false, T) := by
    unfold stepR
    rw [hend]; rfl
  rcases hls with hls | h0
  · refine ⟨T, ?_⟩
    rw [hls, t2]
    show (if (stepR ((0 + (cs.map fun b => lb (b ++ [10])).length : Nat) : Int) T (lb a)).1 then _ else _) = _
    rw [hstep, if_neg (by simp), List.length_map, hcl, Nat.zero_add]
  · exfalso
    -- a line that is printed is not empty
    have h6 : lb (a ++ [10]) ∈ printLs st sp xs ms := by
      rw [h1, ← e]; simp
    subst h0
    have h7 : ∀ ws : List ByteArray, ws ≠ [] → bl (ws.headD ⟨#[]⟩) ≠ [] → bl (lineB ws) ≠ [10] := by
      intro ws hw hb e3
      rw [lineB_bl] at e3
      have e4 : Lib.join (ws.map bl) [32] = [] := by
        have := congrArg List.length e3
        simp at this
        exact this
      match ws, hw, hb, e4 with
      | [w], _, hb, e4 => exact hb (by simpa [Lib.join] using e4)
      | w :: v :: r, _, hb, e4 =>
        rw [List.map_cons, List.map_cons, join_cons2] at e4
        simp at e4
    have h8 : bl (lb ([] ++ [10])) = [10] := rfl
    rcases List.mem_cons.1 h6 with h9 | h9
    · exact h7 (wRec :: [st, sp].map itoaB) (by simp) (by show bl wRec ≠ []; decide) (by rw [← h8, h9]; rfl)
    · rcases List.mem_append.1 h9 with h9 | h9
      · obtain ⟨p, _, hp⟩ := List.mem_map.1 h9
        exact h7 [wMark, itoaB p.1, p.2] (by simp) (by show bl wMark ≠ []; decide) (by rw [← h8, ← hp]; rfl)
      · obtain ⟨x, _, hx⟩ := List.mem_map.1 h9
        exact h7 (wSamp :: [unitI x].map itoaB) (by simp) (by show bl wSamp ≠ []; decide) (by rw [← h8, ← hx]; rfl)
theorem smallN_all (ws : List ByteArray) : smallN ws := by
  unfold smallN
  have := intV_bd (headW ws.tail).data.toList
  omega
theorem unit_val {x : Nat} (h : sampI x = 0) : Val Ieee.single x (unitI x * (2 ^ 145 : Nat)) := by
  have h2 : partI x 16384 = 0 := by rw [← sampI_eq]; exact h
  unfold partI at h2
  split at h2
  · cases h2
  · have h3 : stepB x 16384 = true := by
      cases hs : stepB x 16384 with
      | true => rfl
      | false => rw [hs] at h2; cases h2
    unfold stepB at h3
    split at h3
    · rename_i V hV
      simp only [Bool.and_eq_true, decide_eq_true_eq] at h3
      have e : unitI x = cutI V := by unfold unitI; rw [hV]
      rw [e, h3.2]
      exact V32_some hV
    · cases h3
theorem again_eq {x : Nat} (h : sampI x = 0) : (FloatKind.f32.format.order (fb (unitI x)) x == some .eq) = true := by
  have hb := unitI_bd h
  have h1 := (fb_spec (n := unitI x) (by omega)).2
  have h2 := unit_val h
  have h3 := order_eq_iff h1 h2
  rw [show FloatKind.f32.format = Ieee.single from rfl, h3]
  simp
theorem again_samp {x : Nat} (h : sampI x = 0) : sampI (fb (unitI x)) = 0 := by
  have hb := unitI_bd h
  have h1 := (fb_spec (n := unitI x) (by omega)).2
  have h2 := unit_val h
  have e : V32 (fb (unitI x)) = some (unitI x * (2 ^ 145 : Nat)) := V32_of h1
  have e2 : V32 x = some (unitI x * (2 ^ 145 : Nat)) := V32_of h2
  rw [sampI_eq] at h ⊢
  unfold partI stepB at h ⊢
  rw [e2] at h
  rw [e]
  exact h
def againL (xs : List Nat) : List Nat := xs.map fun x => fb (unitI x)
theorem again_same : ∀ {xs : List Nat}, (∀ x ∈ xs, sampI x = 0) → sameF (againL xs) xs = true
  | [], _ => rfl
  | x :: xs, h => by
    show ((FloatKind.f32.format.order (fb (unitI x)) x == some .eq) && sameF (againL xs) xs) = true
    rw [again_eq (h x List.mem_cons_self), again_same fun y hy => h y (List.mem_cons_of_mem _ hy)]; rfl
theorem again_len (xs : List Nat) : (againL xs).length = xs.length := by simp [againL]
theorem again_samps {xs : List Nat} (h : sampsI xs = 0) : sampsI (againL xs) = 0 := by
  obtain ⟨h1, h2⟩ := samps_zero h
  unfold sampsI
  rw [if_neg (by rw [again_len]; omega)]
  have hz : ∀ {zs : List Int}, (∀ z ∈ zs, z = 0) → firstI zs = 0 := by
    intro zs
    induction zs with
    | nil => intro _; rfl
    | cons z zs ih =>
      intro h
      show (if z = 0 then firstI zs else z) = 0
      rw [if_pos (h z List.mem_cons_self)]
      exact ih fun y hy => h y (List.mem_cons_of_mem _ hy)
  refine hz fun z hz => ?_
  obtain ⟨y, hy, rfl⟩ := List.mem_map.1 hz
  obtain ⟨x, hx, rfl⟩ := List.mem_map.1 hy
  exact again_samp (h2 x hx)
theorem rec_samps {st sp : Int} {xs : List Nat} {ms : List (Int × ByteArray)} (h : recI st sp xs ms = 0) : sampsI xs = 0 := firstI_allz h _ (by simp)
theorem again_rec {st sp : Int} {xs : List Nat} {ms : List (Int × ByteArray)} (h : recI st sp xs ms = 0) : recI st sp (againL xs) ms = 0 := by
  have hs := again_samps (rec_samps h)
  have hl := again_len xs
  unfold recI at h ⊢
  rw [hl, hs]
  have h0 := rec_samps h
  rw [h0] at h
  exact h
theorem step_len (i : Int) (S : PaS) (l : ByteArray) : (stepR i S l).2.2.2.1.length ≤ S.2.2.1.length + 1 := by
  unfold stepR
  split
  · exact (lineR_len i S _).1
  · exact Nat.le_succ _
theorem go_len : ∀ (ls : List ByteArray) (i : Nat) (S : PaS), (linesGo i S ls).2.2.2.2.1.length ≤ S.2.2.1.length + ls.length
  | [], i, S => Nat.le_refl _
  | l :: ls, i, S => by
    have h1 := step_len i S l
    show (if (stepR i S l).1 then linesGo (i + 1) (stepR i S l).2 ls else (i, false, (stepR i S l).2)).2.2.2.2.1.length ≤ _
    rw [List.length_cons]
    split
    · have h2 := go_len ls (i + 1) (stepR i S l).2
      omega
    · show (stepR i S l).2.2.2.1.length ≤ _
      omega
end Go.Proofs.YtoclnlimnjnbkaaGreatDoor
namespace Go.Proofs.YtoclnlimnjnbkaaGreatDoor
set_option linter.all false
open Go.RowKit Go.Fl
def zaggV : Value := .agg #[.int .i64 0, .int .i64 0, .slice none 0 0, .slice none 0 0]
set_option maxRecDepth 100000 in
set_option maxHeartbeats 4000000 in
theorem parse_bad (s : ByteArray) (w : World) (i : Nat) (S : PaS) (hM : Mx w) (hs : s.size ≤ 4096) (hg : linesGo 0 zeroS (linesL s) = (i, false, S)) :
    Calls Tryz.prog 11 #[.string s] w fun e w' => e = .returned (.tuple #[zaggV, .int .i64 i, .int .i64 25]) ∧ Below w.heap.size w w' := by
  obtain ⟨w0, hw0⟩ : ∃ w0, w0 = w.alloc (.cells zero4.toArray 33) := ⟨_, rfl⟩
  have hz0 : w0.heap.size = w.heap.size + 1 := by rw [hw0, World.size_alloc]
  have hb0 : Below w.heap.size w w0 := by rw [hw0]; exact (Below.refl _ _).alloc (Nat.le_refl _) _
  have hr0 : Row w0 w.heap.size 33 zero4 := by rw [hw0]; exact Row.new _ _ _
  have hb1 : Below w0.heap.size w0 (w0.alloc (.cells zero4.toArray 33)) := (Below.refl _ _).alloc (Nat.le_refl _) _
  have HI : Hid (RcI w0 (w.heap.size + 1) zeroS (w0.alloc (.cells zero4.toArray 33))) := by
    have h := Row.new w0 33 zero4
    rw [hz0] at h
    exact ⟨by omega, _, _, h, World.ownsRow_nil _ _ _ _, World.ownsRow_nil _ _ _ _, hb1⟩
  have HL : Hid (Calls Tryz.prog 53 #[.string s, .func (.func 54) #[] #[.pointer (some ⟨w.heap.size + 1, 0, none⟩)]] ((w.alloc (.cells zero4.toArray 33)).alloc (.cells zero4.toArray 33)) fun e w' => e = .returned (.tuple #[.int .i64 i, .int .i64 25]) ∧ RcI w0 (w.heap.size + 1) S w') := by
    have := readLines_any w0 (w.heap.size + 1) s _ HI.out (hM.old hb0) hs (fun l _ => smallN_all _)
    rw [hg] at this; rw [← hw0]; exact this
  have Hr0 := Lib.hid hr0; have Hb0 := Lib.hid hb0; have Hz0 := Lib.hid hz0
  clear hw0 hz0 hb0 hr0 hb1 HI hg hM
  go_enter Tryz.func11, Tryz.ntmps11
  go_wp2_with fail
  refine HL.out.mono ?_
  rintro e w1 ⟨rfl, h1⟩
  obtain ⟨k1, vs, vm, k3, k4, k5, k6⟩ := h1
  have hr1 : Row w1 w.heap.size 33 zero4 := Hr0.out.below k6 (by have := Hz0.out; omega)
  have HB1 : Hid (Below w.heap.size w w1) := Hb0.out.trans (k6.mono (by have := Hz0.out; omega))
  have z0 := hr1.cell 0; have z1 := hr1.cell 1; have z2 := hr1.cell 2; have z3 := hr1.cell 3
  have f0 := hr1.free 0; have f1 := hr1.free 1; have f2 := hr1.free 2; have f3 := hr1.free 3
  have R1 := Lib.hid hr1
  simp only [zero4, List.getElem?_cons_succ, List.getElem?_cons_zero] at z0 z1 z2 z3
  clear hr1 k1 k3 k4 k5 k6
  go_wp2
  have hrow := (((R1.out.set 0 (.int .i64 0)).set 1 (.int .i64 0)).set 2 (.slice none 0 0)).set 3 (.slice none 0 0)
  have hbb := (((HB1.out.setCell (p := ⟨w.heap.size, 0, none⟩) (Nat.le_refl _) (.int .i64 0)).setCell (p := ⟨w.heap.size, 1, none⟩) (Nat.le_refl _) (.int .i64 0)).setCell (p := ⟨w.heap.size, 2, none⟩) (Nat.le_refl _) (.slice none 0 0)).setCell (p := ⟨w.heap.size, 3, none⟩) (Nat.le_refl _) (.slice none 0 0)
  exact bodyPost_ret (results_ctt rfl _ _ w.heap.size 33 #[.int .i64 0, .int .i64 0, .slice none 0 0, .slice none 0 0] (0, 0) _ rfl hrow Tryz.underlying33 rfl (by kernel_rfl)) rfl ⟨rfl, hbb⟩
set_option maxRecDepth 100000 in
set_option maxHeartbeats 4000000 in
theorem parse_empty (s : ByteArray) (w : World) (S : PaS) (hM : Mx w) (hs : s.size ≤ 4096) (hg : linesGo 0 zeroS (linesL s) = (0, true, S)) :
    Calls Tryz.prog 11 #[.string s] w fun e w' => e = .returned (.tuple #[zaggV, .int .i64 0, .int .i64 25]) ∧ Below w.heap.size w w' := by
  obtain ⟨w0, hw0⟩ : ∃ w0, w0 = w.alloc (.cells zero4.toArray 33) := ⟨_, rfl⟩
  have hz0 : w0.heap.size = w.heap.size + 1 := by rw [hw0, World.size_alloc]
  have hb0 : Below w.heap.size w w0 := by rw [hw0]; exact (Below.refl _ _).alloc (Nat.le_refl _) _
  have hr0 : Row w0 w.heap.size 33 zero4 := by rw [hw0]; exact Row.new _ _ _
  have hb1 : Below w0.heap.size w0 (w0.alloc (.cells zero4.toArray 33)) := (Below.refl _ _).alloc (Nat.le_refl _) _
  have HI : Hid (RcI w0 (w.heap.size + 1) zeroS (w0.alloc (.cells zero4.toArray 33))) := by
    have h := Row.new w0 33 zero4
    rw [hz0] at h
    exact ⟨by omega, _, _, h, World.ownsRow_nil _ _ _ _, World.ownsRow_nil _ _ _ _, hb1⟩
  have HL : Hid (Calls Tryz.prog 53 #[.string s, .func (.func 54) #[] #[.pointer (some ⟨w.heap.size + 1, 0, none⟩)]] ((w.alloc (.cells zero4.toArray 33)).alloc (.cells zero4.toArray 33)) fun e w' => e = .returned (.tuple #[.int .i64 0, .int .i64 0]) ∧ RcI w0 (w.heap.size + 1) S w') := by
    have := readLines_any w0 (w.heap.size + 1) s _ HI.out (hM.old hb0) hs (fun l _ => smallN_all _)
    rw [hg] at this; rw [← hw0]; exact this
  have Hr0 := Lib.hid hr0; have Hb0 := Lib.hid hb0; have Hz0 := Lib.hid hz0
  clear hw0 hz0 hb0 hr0 hb1 HI hg hM
  go_enter Tryz.func11, Tryz.ntmps11
  go_wp2_with fail
  refine HL.out.mono ?_
  rintro e w1 ⟨rfl, h1⟩
  obtain ⟨k1, vs, vm, k3, k4, k5, k6⟩ := h1
  have hr1 : Row w1 w.heap.size 33 zero4 := Hr0.out.below k6 (by have := Hz0.out; omega)
  have HB1 : Hid (Below w.heap.size w w1) := Hb0.out.trans (k6.mono (by have := Hz0.out; omega))
  have z0 := hr1.cell 0; have z1 := hr1.cell 1; have z2 := hr1.cell 2; have z3 := hr1.cell 3
  have f0 := hr1.free 0; have f1 := hr1.free 1; have f2 := hr1.free 2; have f3 := hr1.free 3
  have R1 := Lib.hid hr1
  simp only [zero4, List.getElem?_cons_succ, List.getElem?_cons_zero] at z0 z1 z2 z3
  clear hr1 k1 k3 k4 k5 k6
  go_wp2
  have hrow := (((R1.out.set 0 (.int .i64 0)).set 1 (.int .i64 0)).set 2 (.slice none 0 0)).set 3 (.slice none 0 0)
  have hbb := (((HB1.out.setCell (p := ⟨w.heap.size, 0, none⟩) (Nat.le_refl _) (.int .i64 0)).setCell (p := ⟨w.heap.size, 1, none⟩) (Nat.le_refl _) (.int .i64 0)).setCell (p := ⟨w.heap.size, 2, none⟩) (Nat.le_refl _) (.slice none 0 0)).setCell (p := ⟨w.heap.size, 3, none⟩) (Nat.le_refl _) (.slice none 0 0)
  exact bodyPost_ret (results_ctt rfl _ _ w.heap.size 33 #[.int .i64 0, .int .i64 0, .slice none 0 0, .slice none 0 0] (0, 0) _ rfl hrow Tryz.underlying33 rfl (by kernel_rfl)) rfl ⟨rfl, hbb⟩
set_option maxRecDepth 100000 in
set_option maxHeartbeats 4000000 in
theorem parse_err (s : ByteArray) (w : World) (n : Nat) (st sp : Int) (xs : List Nat) (ms : List (Int × ByteArray)) (hx : xs.length ≤ 1000000000) (h0 : recI st sp xs ms ≠ 0) (hM : Mx w) (hs : s.size ≤ 4096) (hg : linesGo 0 zeroS (linesL s) = (n + 1, true, (st, sp, xs, ms))) :
    Calls Tryz.prog 11 #[.string s] w fun e w' => e = .returned (.tuple #[zaggV, .int .i64 (n + 1 : Nat), .int .i64 (recI st sp xs ms)]) ∧ Below w.heap.size w w' := by
  obtain ⟨w0, hw0⟩ : ∃ w0, w0 = w.alloc (.cells zero4.toArray 33) := ⟨_, rfl⟩
  have hz0 : w0.heap.size = w.heap.size + 1 := by rw [hw0, World.size_alloc]
  have hb0 : Below w.heap.size w w0 := by rw [hw0]; exact (Below.refl _ _).alloc (Nat.le_refl _) _
  have hr0 : Row w0 w.heap.size 33 zero4 := by rw [hw0]; exact Row.new _ _ _
  have hb1 : Below w0.heap.size w0 (w0.alloc (.cells zero4.toArray 33)) := (Below.refl _ _).alloc (Nat.le_refl _) _
  have HI : Hid (RcI w0 (w.heap.size + 1) zeroS (w0.alloc (.cells zero4.toArray 33))) := by
    have h := Row.new w0 33 zero4
    rw [hz0] at h
    exact ⟨by omega, _, _, h, World.ownsRow_nil _ _ _ _, World.ownsRow_nil _ _ _ _, hb1⟩
  have HL : Hid (Calls Tryz.prog 53 #[.string s, .func (.func 54) #[] #[.pointer (some ⟨w.heap.size + 1, 0, none⟩)]] ((w.alloc (.cells zero4.toArray 33)).alloc (.cells zero4.toArray 33)) fun e w' => e = .returned (.tuple #[.int .i64 (n + 1 : Nat), .int .i64 0]) ∧ RcI w0 (w.heap.size + 1) (st, sp, xs, ms) w') := by
    have := readLines_any w0 (w.heap.size + 1) s _ HI.out (hM.old hb0) hs (fun l _ => smallN_all _)
    rw [hg] at this; rw [← hw0]; exact this
  obtain ⟨E, hE⟩ : ∃ E, E = recI st sp xs ms := ⟨_, rfl⟩
  rw [← hE] at h0 ⊢
  have HE := Lib.hid hE; have HE0 := Lib.hid h0; have HX := Lib.hid hx
  clear hE h0 hx
  have Hr0 := Lib.hid hr0; have Hb0 := Lib.hid hb0; have Hz0 := Lib.hid hz0
  clear hw0 hz0 hb0 hr0 hb1 HI hg hM
  go_enter Tryz.func11, Tryz.ntmps11
  go_wp2_with fail
  refine HL.out.mono ?_
  rintro e w1 ⟨rfl, h1⟩
  obtain ⟨k1, vs, vm, k3, k4, k5, k6⟩ := h1
  obtain ⟨A, c, rfl, hA⟩ := owned_slice k4
  obtain ⟨B, d, rfl, hB⟩ := owned_slice k5
  have hr1 : Row w1 w.heap.size 33 zero4 := Hr0.out.below k6 (by have := Hz0.out; omega)
  have HB1 : Hid (Below w.heap.size w w1) := Hb0.out.trans (k6.mono (by have := Hz0.out; omega))
  have q0 := k3.cell 0; have q1 := k3.cell 1; have q2 := k3.cell 2; have q3 := k3.cell 3
  have HC : Hid (Calls Tryz.prog 45 #[.agg #[.int .i64 st, .int .i64 sp, .slice A xs.length c, .slice B ms.length d]] w1 fun e w' => e = .returned (.int .i64 E) ∧ Below w1.heap.size w1 w') := by
    have := checkRecording_any st sp A B xs.length c ms.length d xs ms w1 hA hB rfl rfl (HX.out)
    rw [← HE.out] at this; exact this
  simp only [paV, List.getElem?_cons_succ, List.getElem?_cons_zero] at q0 q1 q2 q3
  have R0 := Lib.hid hr1
  have hn2 : ((n : Int) + 1 == 0) = false := by rw [beq_eq_false_iff_ne]; omega
  have hn3 : (((n + 1 : Nat) : Int) == 0) = false := by rw [beq_eq_false_iff_ne]; omega
  clear k1 k3 k4 k5 k6 hA hB hr1
  go_wp2_with fail
  refine HC.out.mono ?_
  rintro e w2 ⟨rfl, hb2⟩
  have hr1 := R0.out.old hb2
  have HB2 := Lib.hid (HB1.out.trans (hb2.mono HB1.out.size))
  clear HB1 hb2 q0 q1 q2 q3 R0
  have HB1 := HB2
  clear HB2
  have he : (E != 0) = true := by rw [bne_iff_ne]; exact HE0.out
  have z0 := hr1.cell 0; have z1 := hr1.cell 1; have z2 := hr1.cell 2; have z3 := hr1.cell 3
  have f0 := hr1.free 0; have f1 := hr1.free 1; have f2 := hr1.free 2; have f3 := hr1.free 3
  have R1 := Lib.hid hr1
  simp only [zero4, List.getElem?_cons_succ, List.getElem?_cons_zero] at z0 z1 z2 z3
  clear hr1
  go_wp2
  have hrow := (((R1.out.set 0 (.int .i64 0)).set 1 (.int .i64 0)).set 2 (.slice none 0 0)).set 3 (.slice none 0 0)
  have hbb := (((HB1.out.setCell (p := ⟨w.heap.size, 0, none⟩) (Nat.le_refl _) (.int .i64 0)).setCell (p := ⟨w.heap.size, 1, none⟩) (Nat.le_refl _) (.int .i64 0)).setCell (p := ⟨w.heap.size, 2, none⟩) (Nat.le_refl _) (.slice none 0 0)).setCell (p := ⟨w.heap.size, 3, none⟩) (Nat.le_refl _) (.slice none 0 0)
  exact bodyPost_ret (results_ctt rfl _ _ w.heap.size 33 #[.int .i64 0, .int .i64 0, .slice none 0 0, .slice none 0 0] (0, 0) _ rfl hrow Tryz.underlying33 rfl (by kernel_rfl)) rfl ⟨rfl, hbb⟩
theorem cut_count (c : UInt8) : ∀ l : List UInt8, (cutG c 0 l).length = l.count c + 1
  | [] => rfl
  | x :: l => by
    unfold cutG
    by_cases h : x = c
    · subst h
      rw [if_pos rfl, List.length_cons, cut_count x l, List.count_cons_self]
    · have hl : ∀ ls : List (List UInt8), ls ≠ [] → (consH x ls).length = ls.length := by
        intro ls h
        cases ls with
        | nil => exact absurd rfl h
        | cons a b => rfl
      rw [if_neg h, hl _ (cutG_ne c 0 l), cut_count c l, List.count_cons_of_ne (by simpa using h)]
theorem get_bl {s : ByteArray} {k : Nat} (h : k < s.size) : (bl s)[k]? = some s[k] := by
  show s.data.toList[k]? = _
  rw [Array.getElem?_toList]
  exact Array.getElem?_eq_getElem h
theorem count_take_succ {s : ByteArray} {k : Nat} (h : k < s.size) (c : UInt8) : ((bl s).take (k + 1)).count c = ((bl s).take k).count c + if s[k] = c then 1 else 0 := by
  rw [List.take_add_one, get_bl h, Option.toList_some, List.count_append]
  congr 1
  by_cases hc : s[k] = c
  · rw [if_pos hc, hc]; simp
  · rw [if_neg hc, List.count_cons_of_ne (by simpa using hc)]; rfl
set_option maxRecDepth 100000 in
set_option maxHeartbeats 2000000 in
theorem splitR_any (s : ByteArray) (c : UInt8) (w : World) (hs : s.size ≤ 100000) :
    Calls Tryz.prog 30 #[.string s, .int .u8 (c.toNat : Int)] w fun e w' => ∃ A k, e = .returned (.slice A ((bl s).count c + 1) k) ∧ Below w.heap.size w w' := by
  obtain ⟨M, hM⟩ : ∃ M, M = w.heap.size := ⟨_, rfl⟩
  have HM := Lib.hid hM
  have hst0 : w.ownsRow M 9 1 (.slice none 0 0) 0 (strs []) := ⟨by simp [strs], .inl ⟨rfl, rfl⟩⟩
  have HST0 := Lib.hid hst0
  obtain ⟨iS, hiS, hiS0, hiS1, hiS2⟩ := info_parts info9
  obtain ⟨cv, hcv⟩ : ∃ cv : Nat, cv = c.toNat := ⟨_, rfl⟩
  have HCV := Lib.hid hcv
  rw [← hcv]
  clear hM hst0 hcv
  go_enter Tryz.func30, Tryz.ntmps30
  go_wp2_with fail
  go_loopg [5, 6, 7] s.size (fun g s5 s6 s7 wr => ∃ (i f : Nat) (ls : List ByteArray), i + g = s.size ∧ s7 = .int .i64 i ∧ s6 = .int .i64 f ∧ f ≤ i ∧ Hid (ls.length = ((bl s).take i).count c) ∧ Hid (wr.ownsRow M 9 1 s5 ls.length (strs ls)) ∧ Hid (Below M w wr))
  case atStart => exact ⟨0, 0, [], by omega, rfl, rfl, Nat.le_refl _, rfl, HST0.out, Below.refl _ _⟩
  case round =>
    clear HST0
    obtain ⟨i, f, ls, hi, rfl, rfl, hf, hl, hown, hb⟩ := hrel
    have hmz : M ≤ wr.heap.size := by have h1 := hb.out.size; have h2 := HM.out; omega
    obtain ⟨nl, hnl⟩ : ∃ nl, nl = ls.length := ⟨_, rfl⟩
    have hln : nl ≤ 100000 := by
      have h1 := hl.out
      have h2 : ((bl s).take i).count c ≤ ((bl s).take i).length := List.count_le_length
      have h3 : (bl s).length = s.size := by show s.data.toList.length = _; simp
      rw [List.length_take, h3] at h2
      omega
    have HNL := Lib.hid hnl
    by_cases hlt : i < s.size
    · have hs3 := Lib.hid (count_take_succ hlt c)
      have i1 : (i : Int) < (s.size : Int) := by omega
      have i2 : (f : Int) ≤ (i : Int) := by omega
      by_cases hc : s[i] = c
      · have e1 : ((s[i].toNat : Int) == (cv : Int)) = true := by rw [hc, HCV.out]; simp
        have HC := Lib.hid hc
        have HO := Lib.hid hown.out
        have ho2 := hown.out
        rw [← hnl] at ho2
        have HO2 := Lib.hid ho2
        clear hc hown ho2 hnl
        go_wp2_with (at_builtin; refine wpList_append_own_at _ rfl _ _ 78 rfl M 9 iS (.string ⟨#[]⟩) 1 16 Tryz.underlying78 hiS hiS0 hiS1 hiS2 rfl (by decide) _ nl (strs ls) rfl (HO2.out.alloc _) ⟨wr.heap.size, 0, none⟩ 1 1 [.string (s.extract f i)] rfl rfl (news1 _ _ _ _ rfl) (by simp [Value.oneCell']) (by unfold maxLen; omega) (by omega) (by simp; omega) ?_; intro v' w1 hown' hgrow _ hat2)
        go_roundg (s.size - (i + 1))
        case measure => omega
        case rel =>
          refine ⟨i + 1, i + 1, ls ++ [s.extract f i], by omega, by go_num, by go_num, Nat.le_refl _, ?_, ?_, Below.app hb.out hmz HO2.out hgrow⟩
          · unfold Hid
            rw [hs3.out, if_pos HC.out, List.length_append, hl.out]; rfl
          · have h := hown'
            unfold Hid
            rw [List.length_append, List.length_singleton, ← HNL.out]
            unfold strs at h ⊢
            rw [List.map_append]
            exact h
      · have e1 : ((s[i].toNat : Int) == (cv : Int)) = false := by
          rw [beq_eq_false_iff_ne, HCV.out]
          intro e
          exact hc (UInt8.toNat_inj.1 (by omega))
        have HC := Lib.hid hc
        clear hc hnl
        go_wp2_with fail
        go_roundg (s.size - (i + 1))
        case measure => omega
        case rel =>
          refine ⟨i + 1, f, ls, by omega, by go_num, rfl, by omega, ?_, hown, hb⟩
          unfold Hid
          rw [hs3.out, if_neg HC.out, hl.out, Nat.add_zero]
    · obtain rfl : i = s.size := by omega
      have i2 : (f : Int) ≤ (s.size : Int) := by omega
      have ho2 := hown.out
      rw [← hnl] at ho2
      have HO2 := Lib.hid ho2
      clear hown ho2 hnl
      go_wp2_with (at_builtin; refine wpList_append_own_at _ rfl _ _ 78 rfl M 9 iS (.string ⟨#[]⟩) 1 16 Tryz.underlying78 hiS hiS0 hiS1 hiS2 rfl (by decide) _ nl (strs ls) rfl (HO2.out.alloc _) ⟨wr.heap.size, 0, none⟩ 1 1 [.string (s.extract f s.size)] rfl rfl (news1 _ _ _ _ rfl) (by simp [Value.oneCell']) (by unfold maxLen; omega) (by omega) (by simp; omega) ?_; intro v' w1 hown' hgrow _ hat2)
      obtain ⟨A', k', rfl, -⟩ := owned_slice hown'
      have HL := Lib.hid (Below.app hb.out hmz HO2.out hgrow)
      have hcount : nl + 1 = (bl s).count c + 1 := by
        have h1 := hl.out
        rw [List.take_of_length_le (by show s.data.toList.length ≤ _; simp)] at h1
        rw [HNL.out, h1]
      have HCN := Lib.hid hcount
      clear hown' hgrow hat2 hcount
      go_wp2_with fail
      go_ret
      exact ⟨A', k', by rw [HCN.out]; rfl, HM.out ▸ HL.out⟩
theorem flatC_app (a b : List ByteArray) : flatC (a ++ b) = flatC a ++ flatC b := by simp [flatC]
theorem print_len {st sp : Int} {xs : List Nat} {ms : List (Int × ByteArray)} (h : GoodR st sp xs ms) (hx : xs.length ≤ 40) (hm : ms.length ≤ 6) : (printL st sp xs ms).length ≤ 4000 ∧ 1 ≤ (printL st sp xs ms).length := by
  obtain ⟨l, hl, hs⟩ := head_line h
  have h1 := flatC_len (ms.map markB) 100 (fun x hx => by
    obtain ⟨p, hp, rfl⟩ := List.mem_map.1 hx
    have := h.mark p hp
    exact markB_size this.1 h.many this.2)
  have h2 := flatC_len (xs.map sampB) 29 (fun x hx => by
    obtain ⟨y, hy, rfl⟩ := List.mem_map.1 hx
    have := numLineB_size wSamp [unitI y] (by intro z hz; simp at hz; subst hz; exact unit_range (h.samp y hy))
    have h3 : wSamp.size = 6 := rfl
    unfold sampB
    simp only [List.length_cons, List.length_nil] at this
    omega)
  rw [List.length_map] at h1 h2
  have e : printL st sp xs ms = l.data.toList ++ (flatC (ms.map markB) ++ flatC (xs.map sampB)) := by
    rw [hl.out, ← flatC_app]
    unfold printL printLs flatC
    rw [List.flatMap_cons]
  have hsz : l.data.toList.length = l.size := Array.length_toList
  have hp : 1 ≤ l.size := by
    rw [hl.out]
    unfold numLineB
    rw [lineB_size]
    unfold lineL
    rw [List.length_append]; simp
  rw [e, List.length_append, List.length_append, hsz]
  omega
set_option maxRecDepth 100000 in
set_option maxHeartbeats 4000000 in
theorem parse_good (s : ByteArray) (w : World) (st sp : Int) (xs : List Nat) (ms : List (Int × ByteArray)) (n : Nat) (hM : Mx w) (hs : s.size ≤ 4096) (hg : linesGo 0 zeroS (linesL s) = (n + 1, true, (st, sp, xs, ms))) (h0 : recI st sp xs ms = 0) :
    Calls Tryz.prog 11 #[.string s] w fun e w' => ∃ A c B d, e = .returned (.tuple #[.agg #[.int .i64 st, .int .i64 sp, .slice A xs.length c, .slice B ms.length d], .int .i64 0, .int .i64 0]) ∧ Rd w' A (flts xs) ∧ Rd w' B (markC ms) ∧ (A = none → c = 0) ∧ Below w.heap.size w w' := by
  have hlx := (goodR_of h0).many
  obtain ⟨w0, hw0⟩ : ∃ w0, w0 = w.alloc (.cells zero4.toArray 33) := ⟨_, rfl⟩
  have hz0 : w0.heap.size = w.heap.size + 1 := by rw [hw0, World.size_alloc]
  have hb0 : Below w.heap.size w w0 := by rw [hw0]; exact (Below.refl _ _).alloc (Nat.le_refl _) _
  have hr0 : Row w0 w.heap.size 33 zero4 := by rw [hw0]; exact Row.new _ _ _
  have hb1 : Below w0.heap.size w0 (w0.alloc (.cells zero4.toArray 33)) := (Below.refl _ _).alloc (Nat.le_refl _) _
  have HI : Hid (RcI w0 (w.heap.size + 1) zeroS (w0.alloc (.cells zero4.toArray 33))) := by
    have h := Row.new w0 33 zero4
    rw [hz0] at h
    exact ⟨by omega, _, _, h, World.ownsRow_nil _ _ _ _, World.ownsRow_nil _ _ _ _, hb1⟩
  have HL : Hid (Calls Tryz.prog 53 #[.string s, .func (.func 54) #[] #[.pointer (some ⟨w.heap.size + 1, 0, none⟩)]] ((w.alloc (.cells zero4.toArray 33)).alloc (.cells zero4.toArray 33)) fun e w' => e = .returned (.tuple #[.int .i64 (n + 1 : Nat), .int .i64 0]) ∧ RcI w0 (w.heap.size + 1) (st, sp, xs, ms) w') := by
    have := readLines_any w0 (w.heap.size + 1) s _ HI.out (hM.old hb0) hs (fun l _ => smallN_all _)
    rw [hg] at this; rw [← hw0]; exact this
  have Hr0 := Lib.hid hr0; have Hb0 := Lib.hid hb0; have Hz0 := Lib.hid hz0
  have HE := Lib.hid h0
  clear hw0 hz0 hb0 hr0 hb1 HI hg h0 hM
  go_enter Tryz.func11, Tryz.ntmps11
  go_wp2_with fail
  refine HL.out.mono ?_
  rintro e w1 ⟨rfl, h1⟩
  obtain ⟨k1, vs, vm, k3, k4, k5, k6⟩ := h1
  obtain ⟨A, c, rfl, hA⟩ := owned_slice k4
  obtain ⟨B, d, rfl, hB⟩ := owned_slice k5
  have HCP := Lib.hid (own_cap k4).2
  have HAb : Hid (∀ b off, A = some ⟨b, off, none⟩ → b ≠ w.heap.size) := fun b off e => by
    have := (k4.lt b (by rw [e]; rfl)).1
    have := Hz0.out; omega
  have HBb : Hid (∀ b off, B = some ⟨b, off, none⟩ → b ≠ w.heap.size) := fun b off e => by
    have := (k5.lt b (by rw [e]; rfl)).1
    have := Hz0.out; omega
  have hr1 : Row w1 w.heap.size 33 zero4 := Hr0.out.below k6 (by have := Hz0.out; omega)
  have HB1 : Hid (Below w.heap.size w w1) := Hb0.out.trans (k6.mono (by have := Hz0.out; omega))
  have q0 := k3.cell 0; have q1 := k3.cell 1; have q2 := k3.cell 2; have q3 := k3.cell 3
  have HC : Hid (Calls Tryz.prog 45 #[.agg #[.int .i64 st, .int .i64 sp, .slice A xs.length c, .slice B ms.length d]] w1 fun e w' => e = .returned (.int .i64 0) ∧ Below w1.heap.size w1 w') := by
    have := checkRecording_any st sp A B xs.length c ms.length d xs ms w1 hA hB rfl rfl (by omega)
    rw [HE.out] at this; exact this
  have HA := Lib.hid hA; have HB := Lib.hid hB; have K3 := Lib.hid k3; have R1 := Lib.hid hr1
  simp only [paV, List.getElem?_cons_succ, List.getElem?_cons_zero] at q0 q1 q2 q3
  clear k1 k3 k4 k5 k6 hA hB hr1
  go_wp2_with fail
  refine HC.out.mono ?_
  rintro e w2 ⟨rfl, hb2⟩
  have k3 := K3.out.old hb2
  have r2 := R1.out.old hb2
  have p0 := k3.cell 0; have p1 := k3.cell 1; have p2 := k3.cell 2; have p3 := k3.cell 3
  have z0 := r2.cell 0; have z1 := r2.cell 1; have z2 := r2.cell 2; have z3 := r2.cell 3
  have f0 := r2.free 0; have f1 := r2.free 1; have f2 := r2.free 2; have f3 := r2.free 3
  have HA2 := Lib.hid (HA.out.below hb2); have HB2 := Lib.hid (HB.out.below hb2)
  have HB3 := Lib.hid (HB1.out.trans (hb2.mono HB1.out.size))
  have R2 := Lib.hid r2
  simp only [paV, zero4, List.getElem?_cons_succ, List.getElem?_cons_zero] at p0 p1 p2 p3 z0 z1 z2 z3
  clear k3 r2 hb2 q0 q1 q2 q3 K3 R1
  go_wp2
  have hrow := (((R2.out.set 0 (.int .i64 st)).set 1 (.int .i64 sp)).set 2 (.slice A xs.length c)).set 3 (.slice B ms.length d)
  have hbb := (((HB3.out.setCell (p := ⟨w.heap.size, 0, none⟩) (Nat.le_refl _) (.int .i64 st)).setCell (p := ⟨w.heap.size, 1, none⟩) (Nat.le_refl _) (.int .i64 sp)).setCell (p := ⟨w.heap.size, 2, none⟩) (Nat.le_refl _) (.slice A xs.length c)).setCell (p := ⟨w.heap.size, 3, none⟩) (Nat.le_refl _) (.slice B ms.length d)
  refine bodyPost_ret (results_ctt rfl _ _ w.heap.size 33 #[.int .i64 st, .int .i64 sp, .slice A xs.length c, .slice B ms.length d] (0, 0) _ rfl hrow Tryz.underlying33 rfl (by kernel_rfl)) rfl ⟨A, c, B, d, rfl, ?_, ?_, HCP.out, hbb⟩
  · exact (((HA2.out.far HAb.out _ _).far HAb.out _ _).far HAb.out _ _).far HAb.out _ _
  · exact (((HB2.out.far HBb.out _ _).far HBb.out _ _).far HBb.out _ _).far HBb.out _ _
end Go.Proofs.YtoclnlimnjnbkaaGreatDoor
