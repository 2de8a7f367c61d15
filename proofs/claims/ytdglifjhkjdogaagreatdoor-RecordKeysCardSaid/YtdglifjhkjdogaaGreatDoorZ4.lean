import Derived.Test.YtdglifjhkjdogaaGreatDoorZ3
import Derived.Test.YtdglifjhkjdogaaGreatDoorM08
/- What is heard: sample by sample it is what is heard span by span (no program). -/
namespace Go.Proofs.YtdglifjhkjdogaaGreatDoor
set_option linter.all false
open Go.RowKit Go.Fl Go.Maps
set_option linter.unusedVariables false
set_option linter.unusedSimpArgs false

/-- a code as the program holds it -/
def baB (cs : List Bool) : ByteArray := ⟨(cs.map (fun b => if b then (49 : UInt8) else 48)).toArray⟩
theorem baB_list (cs : List Bool) : (baB cs).data.toList = cs.map (fun b => if b then (49 : UInt8) else 48) := rfl
theorem baB_codes : ∀ k : Fin 26, (codeB k).map (fun b => if b then (49 : UInt8) else 48) = codeL k := by decide +kernel
theorem baB_code (k : Nat) (hk : k < 26) : baB (codeB k) = codeS k := by
  unfold baB codeS; rw [baB_codes ⟨k, hk⟩]
theorem baB_inj {cs : List Bool} {l : List UInt8} (h : l = cs.map (fun b => if b then (49 : UInt8) else 48)) : l.map (fun c => c == 49) = cs := by
  subst h
  rw [List.map_map]
  conv => rhs; rw [← List.map_id cs]
  refine List.map_congr_left fun b _ => ?_
  cases b <;> rfl
theorem baB_app (cs ds : List Bool) : baB (cs ++ ds) = baB cs ++ baB ds := by
  refine ByteArray.ext ?_
  rw [ByteArray.data_append]
  refine Array.ext' ?_
  rw [Array.toList_append]
  simp [baB]
theorem baB_empty (cs : List Bool) : (baB cs).toList.isEmpty = cs.isEmpty := by
  rw [ByteArray.toList_eq, baB_list]; cases cs <;> rfl

theorem LD_at : ∀ k : Fin 26, (has (LD 26) (.string (codeL k)) && (match (LD 26).atKey (.string (codeL k)) (.lit (.string [])) with | .lit (.string l) => l == [UInt8.ofNat (65 + k)] | _ => false)) = true := by decide +kernel
def keysD : DataW Unit → List Lit
  | .map es => es.map (·.1)
  | _ => []
theorem LD_keys : ((keysD (LD 26)).all fun p => match p with | .string l => (List.range 26).any fun k => codeL k == l | _ => false) = true := by decide +kernel
theorem LD_map : ∃ es, LD 26 = .map es := by
  have h : (match LD 26 with | .map _ => true | _ => false) = true := by decide +kernel
  revert h
  cases LD 26 with
  | map es => exact fun _ => ⟨es, rfl⟩
  | _ => intro h; cases h
theorem LD_none {s : List UInt8} (h : ∀ k, k < 26 → codeL k ≠ s) : has (LD 26) (.string s) = false := by
  cases hb : has (LD 26) (.string s) with
  | false => rfl
  | true =>
    exfalso
    have hk := LD_keys
    obtain ⟨es, he⟩ := LD_map
    rw [he] at hb hk
    obtain ⟨p, hp, hs⟩ := List.any_eq_true.1 hb
    have h2 := List.all_eq_true.1 hk p.1 (List.mem_map_of_mem hp)
    cases hp1 : p.1 with
    | string l =>
      rw [hp1] at h2 hs
      obtain ⟨k, hk1, hk2⟩ := List.any_eq_true.1 h2
      have e1 : l = s := by simpa [Lit.sameKey] using hs
      exact h k (List.mem_range.1 hk1) ((beq_iff_eq.1 hk2).trans e1)
    | _ => rw [hp1] at h2; cases h2
theorem lettB_code (k : Nat) (hk : k < 26) : lettB (codeS k) = ⟨#[UInt8.ofNat (65 + k)]⟩ := by
  have h := LD_at ⟨k, hk⟩
  rw [Bool.and_eq_true] at h
  unfold lettB
  rw [codeS_list, if_pos h.1]
  have h2 := h.2
  simp only at h2
  split at h2
  · rename_i l hl
    rw [hl]
    simp only
    rw [beq_iff_eq.1 h2]
  · cases h2
theorem lettB_none {cd : ByteArray} (h : ∀ k, k < 26 → codeL k ≠ cd.data.toList) : lettB cd = ⟨#[63]⟩ := by
  unfold lettB
  rw [LD_none h]
  rfl
theorem letN_spec (cs : List Bool) (f : Nat) : ∀ n, (∃ m, m < n + f ∧ codeB m = cs ∧ letN cs n f = 65 + m) ∨ ((∀ m, n ≤ m → m < n + f → codeB m ≠ cs) ∧ letN cs n f = 63) := by
  induction f with
  | zero => intro n; exact .inr ⟨fun m h1 h2 => by omega, rfl⟩
  | succ f ih =>
    intro n
    by_cases h : codeB n = cs
    · exact .inl ⟨n, by omega, h, by rw [letN, if_pos h]⟩
    · rcases ih (n + 1) with ⟨m, h1, h2, h3⟩ | ⟨h1, h2⟩
      · exact .inl ⟨m, by omega, h2, by rw [letN, if_neg h]; exact h3⟩
      · refine .inr ⟨fun m g1 g2 => ?_, by rw [letN, if_neg h]; exact h2⟩
        by_cases e : m = n
        · subst e; exact h
        · exact h1 m (by omega) (by omega)
def letQB (cs : List Bool) : ByteArray := ⟨#[UInt8.ofNat (letN cs 0 26)]⟩
theorem letN_le (cs : List Bool) : letN cs 0 26 < 256 := by
  rcases letN_spec cs 26 0 with ⟨m, h1, _, h3⟩ | ⟨_, h2⟩
  · omega
  · omega
theorem lettB_baB (cs : List Bool) : lettB (baB cs) = letQB cs := by
  unfold letQB
  rcases letN_spec cs 26 0 with ⟨m, h1, h2, h3⟩ | ⟨h1, h2⟩
  · rw [h3, ← h2, baB_code m (by omega), lettB_code m (by omega)]
  · rw [h2, lettB_none (fun k hk e => ?_)]
    · rfl
    · exact h1 k (Nat.zero_le _) (by omega) (baB_inj e)
theorem lettI_baB (wd : ByteArray) (cs : List Bool) : lettI wd (baB cs) = if cs.isEmpty then wd else wd ++ letQB cs := by
  unfold lettI; rw [baB_empty, lettB_baB]

/-- words, word, code, on, off -/
abbrev HrS := List ByteArray × ByteArray × List Bool × Nat × Nat
def emp (wd : ByteArray) : Bool := wd.toList.isEmpty
theorem emp_eq {wd : ByteArray} (h : emp wd = true) : wd = ⟨#[]⟩ := by
  unfold emp at h
  rw [ByteArray.toList_eq] at h
  refine ByteArray.ext ?_
  refine Array.ext' ?_
  exact List.isEmpty_iff.1 h
def flB (d : Int) (cs : List Bool) (off : Nat) : Bool := !cs.isEmpty && decide (2 * d ≤ (off : Int))
def flW (d : Int) (wd : ByteArray) (cs : List Bool) (off : Nat) : ByteArray := if flB d cs off then wd ++ letQB cs else wd
def flC (d : Int) (cs : List Bool) (off : Nat) : List Bool := if flB d cs off then [] else cs
def flE (d : Int) (wd : ByteArray) (off : Nat) : Bool := decide (5 * d ≤ (off : Int)) && !emp wd
def flO (d : Int) (out : List ByteArray) (wd : ByteArray) (off : Nat) : List ByteArray := if flE d wd off then out ++ [wd] else out
def flV (d : Int) (wd : ByteArray) (off : Nat) : ByteArray := if flE d wd off then ⟨#[]⟩ else wd
def hrStep (d : Int) (r : HrS) (b : Bool) : HrS :=
  if b then (if r.2.2.2.1 = 0 then (flO d r.1 (flW d r.2.1 r.2.2.1 r.2.2.2.2) r.2.2.2.2, flV d (flW d r.2.1 r.2.2.1 r.2.2.2.2) r.2.2.2.2, flC d r.2.2.1 r.2.2.2.2, 1, 0) else (r.1, r.2.1, r.2.2.1, r.2.2.2.1 + 1, 0))
  else (r.1, r.2.1, if 0 < r.2.2.2.1 then r.2.2.1 ++ [decide (2 * d ≤ (r.2.2.2.1 : Int))] else r.2.2.1, 0, r.2.2.2.2 + 1)
def goR (d : Int) (bs : List Bool) (r : HrS) : HrS := bs.foldl (hrStep d) r
def finR (r : HrS) : List ByteArray := addW r.1 (if r.2.2.1.isEmpty then r.2.1 else r.2.1 ++ letQB r.2.2.1)
def heardR (xs : List Nat) (d : Int) : List ByteArray := finR (hrStep d (goR d (xs.map onB) ([], ⟨#[]⟩, [], 0, 0)) false)

theorem run_on (d : Int) (n : Nat) (out : List ByteArray) (wd : ByteArray) (cs : List Bool) (off : Nat) :
    goR d (List.replicate (n + 1) true) (out, wd, cs, 0, off) = (flO d out (flW d wd cs off) off, flV d (flW d wd cs off) off, flC d cs off, n + 1, 0) := by
  have h : ∀ n (r : HrS), 0 < r.2.2.2.1 → r.2.2.2.2 = 0 → goR d (List.replicate n true) r = (r.1, r.2.1, r.2.2.1, r.2.2.2.1 + n, 0) := by
    intro n
    induction n with
    | zero => rintro ⟨a, b, c, e, g⟩ _ h; simp only at h; subst h; rfl
    | succ n ih =>
      rintro ⟨a, b, c, e, g⟩ h h2
      simp only at h h2
      rw [List.replicate_succ]
      show goR d (List.replicate n true) (hrStep d (a, b, c, e, g) true) = _
      have hs : hrStep d (a, b, c, e, g) true = (a, b, c, e + 1, 0) := by unfold hrStep; rw [if_pos rfl, if_neg (by show ¬ e = 0; omega)]
      rw [hs, ih _ (by show 0 < e + 1; omega) rfl]
      show (a, b, c, e + 1 + n, 0) = (a, b, c, e + (n + 1), 0)
      rw [Nat.add_assoc, Nat.add_comm 1 n]
  rw [List.replicate_succ]
  show goR d (List.replicate n true) (hrStep d (out, wd, cs, 0, off) true) = _
  have hs : hrStep d (out, wd, cs, 0, off) true = (flO d out (flW d wd cs off) off, flV d (flW d wd cs off) off, flC d cs off, 1, 0) := by unfold hrStep; rw [if_pos rfl, if_pos rfl]
  rw [hs, h n _ (by show 0 < 1; omega) rfl]
  show (_, _, _, 1 + n, 0) = _
  rw [Nat.add_comm]
theorem run_off (d : Int) (n : Nat) (out : List ByteArray) (wd : ByteArray) (cs : List Bool) (on off : Nat) :
    goR d (List.replicate (n + 1) false) (out, wd, cs, on, off) = (out, wd, (if 0 < on then cs ++ [decide (2 * d ≤ (on : Int))] else cs), 0, off + (n + 1)) := by
  have h : ∀ n (r : HrS), r.2.2.2.1 = 0 → goR d (List.replicate n false) r = (r.1, r.2.1, r.2.2.1, 0, r.2.2.2.2 + n) := by
    intro n
    induction n with
    | zero => rintro ⟨a, b, c, e, g⟩ h; simp only at h; subst h; rfl
    | succ n ih =>
      rintro ⟨a, b, c, e, g⟩ h
      simp only at h
      subst h
      rw [List.replicate_succ]
      show goR d (List.replicate n false) (hrStep d (a, b, c, 0, g) false) = _
      have hs : hrStep d (a, b, c, 0, g) false = (a, b, c, 0, g + 1) := by unfold hrStep; rw [if_neg (by decide)]; rfl
      rw [hs, ih _ rfl]
      show (a, b, c, 0, g + 1 + n) = (a, b, c, 0, g + (n + 1))
      rw [Nat.add_assoc, Nat.add_comm 1 n]
  rw [List.replicate_succ]
  show goR d (List.replicate n false) (hrStep d (out, wd, cs, on, off) false) = _
  have hs : hrStep d (out, wd, cs, on, off) false = (out, wd, (if 0 < on then cs ++ [decide (2 * d ≤ (on : Int))] else cs), 0, off + 1) := by unfold hrStep; rw [if_neg (by decide)]
  rw [hs, h n _ rfl]
  show (_, _, _, 0, off + 1 + n) = _
  rw [Nat.add_assoc, Nat.add_comm 1 n]

theorem flush_eq {d : Int} (hd : 1 ≤ d) (out : List ByteArray) (wd : ByteArray) (cs : List Bool) (off : Nat) :
    offS (out, wd, baB cs) off d = (flO d out (flW d wd cs off) off, flV d (flW d wd cs off) off, baB (flC d cs off)) := by
  unfold offS
  by_cases h5 : 5 * d ≤ (off : Int)
  · have h2 : 2 * d ≤ (off : Int) := by omega
    rw [if_pos h5]
    unfold endS
    simp only
    rw [lettI_baB]
    have e1 : flW d wd cs off = if cs.isEmpty then wd else wd ++ letQB cs := by
      unfold flW flB
      rw [decide_eq_true h2, Bool.and_true]
      cases cs.isEmpty <;> rfl
    have e2 : flC d cs off = [] := by
      unfold flC flB
      rw [decide_eq_true h2, Bool.and_true]
      cases cs <;> rfl
    rw [← e1, e2]
    unfold flO flV flE
    rw [decide_eq_true h5, Bool.true_and]
    unfold addW
    cases he : emp (flW d wd cs off)
    · have he' : (flW d wd cs off).toList.isEmpty = false := he
      rw [he']; rfl
    · have he' : (flW d wd cs off).toList.isEmpty = true := he
      rw [he', emp_eq he]; rfl
  · rw [if_neg h5]
    have hE : flE d (flW d wd cs off) off = false := by unfold flE; rw [decide_eq_false h5, Bool.false_and]
    unfold flO flV
    rw [hE]
    by_cases h2 : 2 * d ≤ (off : Int)
    · rw [if_pos h2, lettI_baB]
      unfold flW flC flB
      rw [decide_eq_true h2, Bool.and_true]
      cases cs <;> rfl
    · rw [if_neg h2]
      unfold flW flC flB
      rw [decide_eq_false h2, Bool.and_false]
      rfl
theorem onS_eq (out : List ByteArray) (wd : ByteArray) (cs : List Bool) (n : Nat) (d : Int) : onS (out, wd, baB cs) n d = (out, wd, baB (cs ++ [decide (2 * d ≤ (n : Int))])) := by
  unfold onS
  rw [baB_app]
  by_cases h : (n : Int) < 2 * d
  · rw [if_pos h, decide_eq_false (by omega)]; rfl
  · rw [if_neg h, decide_eq_true (by omega)]; rfl

theorem runL_rep (b : Bool) (xs : List Nat) : xs.map onB = List.replicate (runL b xs) b ++ (xs.drop (runL b xs)).map onB ∧ (∀ h : runL b xs < xs.length, onB (xs[runL b xs]'h) ≠ b) := by
  induction xs with
  | nil => exact ⟨rfl, fun h => by simp at h⟩
  | cons x xs ih =>
    by_cases hx : onB x = b
    · have e : runL b (x :: xs) = runL b xs + 1 := by rw [runL, if_pos hx]
      refine ⟨?_, ?_⟩
      · rw [e, List.replicate_succ, List.map_cons, hx, List.cons_append, List.drop_succ_cons, ← ih.1]
      · rw [e]
        intro h
        exact ih.2 (by simpa using h)
    · have e : runL b (x :: xs) = 0 := by rw [runL, if_neg hx]
      refine ⟨by rw [e]; rfl, ?_⟩
      rw [e]
      intro h
      exact hx
theorem span_rep (xs : List Nat) (k : Nat) (hk : k < xs.length) : ∃ n, spanEndL xs k = k + (n + 1) ∧ (xs.drop k).map onB = List.replicate (n + 1) (onB xs[k]) ++ (xs.drop (spanEndL xs k)).map onB ∧ (∀ h : spanEndL xs k < xs.length, onB (xs[spanEndL xs k]'h) ≠ onB xs[k]) := by
  obtain ⟨h1, h2⟩ := runL_rep (onB xs[k]) (xs.drop (k + 1))
  have hg : xs.getD k 0 = xs[k] := by simp [hk]
  obtain ⟨n, hn⟩ : ∃ n, n = runL (onB xs[k]) (xs.drop (k + 1)) := ⟨_, rfl⟩
  have hs : spanEndL xs k = k + (n + 1) := by unfold spanEndL; rw [hg, ← hn]; omega
  rw [← hn] at h1 h2
  refine ⟨n, hs, ?_, ?_⟩
  · rw [List.drop_eq_getElem_cons hk, List.map_cons, h1, List.drop_drop, hs, List.replicate_succ, List.cons_append, show k + 1 + n = k + (n + 1) by omega]
  · rw [hs]
    intro h
    have h3 := h2 (by rw [List.length_drop]; omega)
    rw [List.getElem_drop] at h3
    simpa [show k + 1 + n = k + (n + 1) by omega] using h3

/-- what both have heard before the sample at an index -/
def RelH (xs : List Nat) (d : Int) (k : Nat) (s : HeS) (r : HrS) : Prop :=
  (∃ out wd cs off, r = (out, wd, cs, 0, off) ∧ s = offS (out, wd, baB cs) off d ∧ ∀ h : k < xs.length, onB (xs[k]'h) = false → off = 0) ∨
  (∃ out wd cs on, r = (out, wd, cs, on, 0) ∧ 0 < on ∧ s = (out, wd, baB (cs ++ [decide (2 * d ≤ (on : Int))])) ∧ ∀ h : k < xs.length, onB (xs[k]'h) = false)

theorem heard_end {d : Int} (hd : 1 ≤ d) {xs : List Nat} {k : Nat} {s : HeS} {r : HrS} (h : RelH xs d k s r) : (endS s).1 = finR (hrStep d r false) := by
  rcases h with ⟨out, wd, cs, off, rfl, rfl, _⟩ | ⟨out, wd, cs, on, rfl, ho, rfl, _⟩
  · have hs : hrStep d (out, wd, cs, 0, off) false = (out, wd, cs, 0, off + 1) := by unfold hrStep; rw [if_neg (by decide)]; rfl
    rw [hs]
    have hf : finR (out, wd, cs, 0, off + 1) = addW out (lettI wd (baB cs)) := by rw [lettI_baB]; rfl
    rw [hf]
    have hz : ∀ w : ByteArray, lettI w ⟨#[]⟩ = w := fun w => by have := lettI_baB w []; exact this
    unfold offS
    split
    · unfold endS
      simp only
      rw [hz]
      have hz2 : (⟨#[]⟩ : ByteArray).toList.isEmpty = true := by rw [ByteArray.toList_eq]; rfl
      have hz3 : ∀ l : List ByteArray, addW l ⟨#[]⟩ = l := fun l => by unfold addW; rw [if_pos hz2]
      exact hz3 _
    · split
      · unfold endS
        simp only
        rw [hz]
      · rfl
  · have hs : hrStep d (out, wd, cs, on, 0) false = (out, wd, cs ++ [decide (2 * d ≤ (on : Int))], 0, 1) := by unfold hrStep; rw [if_neg (by decide), if_pos ho]
    rw [hs]
    unfold endS
    simp only
    rw [lettI_baB]
    rfl
theorem heard_go {d : Int} (hd : 1 ≤ d) (xs : List Nat) (f : Nat) : ∀ (k : Nat) (s : HeS) (r : HrS), k ≤ xs.length → xs.length ≤ k + f → RelH xs d k s r →
    (endS (hearGo xs d f k s)).1 = finR (hrStep d (goR d ((xs.drop k).map onB) r) false) := by
  induction f with
  | zero =>
    intro k s r h1 h2 hR
    obtain rfl : k = xs.length := by omega
    rw [List.drop_length]
    exact heard_end hd hR
  | succ f ih =>
    intro k s r h1 h2 hR
    by_cases hk : k < xs.length
    · obtain ⟨n, hn, hrep, hne⟩ := span_rep xs k hk
      have hb := spanEndL_bd hk
      rw [hearGo, if_pos hk, hrep]
      have hgo : ∀ a b, goR d (a ++ b) r = goR d b (goR d a r) := fun a b => by unfold goR; rw [List.foldl_append]
      rw [hgo, show xs.getD k 0 = xs[k] by simp [hk]]
      have hlen : ((spanEndL xs k : Nat) : Int) - (k : Int) = ((n + 1 : Nat) : Int) := by rw [hn]; omega
      rw [hlen]
      refine ih _ _ _ hb.2 (by omega) ?_
      rcases hR with ⟨out, wd, cs, off, rfl, rfl, hoff⟩ | ⟨out, wd, cs, on, rfl, ho, rfl, hx⟩
      · cases hon : onB xs[k]
        · have h0 := hoff hk hon
          subst h0
          rw [if_neg (by decide), run_off]
          refine .inl ⟨out, wd, cs, n + 1, ?_, ?_, ?_⟩
          · show (_, _, (if 0 < 0 then _ else cs), 0, 0 + (n + 1)) = _
            rw [if_neg (by decide), Nat.zero_add]
          · have hz : offS (out, wd, baB cs) ((0 : Nat) : Int) d = (out, wd, baB cs) := by unfold offS; rw [if_neg (by omega), if_neg (by omega)]
            rw [hz]
          · intro h hf
            exact absurd (hf.trans hon.symm) (hne h)
        · rw [if_pos rfl, run_on, flush_eq hd, onS_eq]
          refine .inr ⟨_, _, _, n + 1, rfl, by omega, rfl, ?_⟩
          intro h
          have := hne h
          rw [hon] at this
          simpa using this
      · have hf := hx hk
        rw [hf, if_neg (by decide), run_off, if_pos ho, Nat.zero_add]
        refine .inl ⟨_, _, _, n + 1, rfl, rfl, ?_⟩
        intro h hf2
        exact absurd (hf2.trans hf.symm) (hne h)
    · obtain rfl : k = xs.length := by omega
      rw [hearGo, if_neg hk, List.drop_length]
      exact heard_end hd hR
theorem heardR_eq {d : Int} (hd : 1 ≤ d) (xs : List Nat) : heardR xs d = heardL xs d := by
  have h := heard_go hd xs xs.length 0 ([], ⟨#[]⟩, ⟨#[]⟩) ([], ⟨#[]⟩, [], 0, 0) (Nat.zero_le _) (by omega)
    (.inl ⟨[], ⟨#[]⟩, [], 0, rfl, by unfold offS; rw [if_neg (by omega), if_neg (by omega)]; rfl, fun _ _ => rfl⟩)
  rw [List.drop_zero] at h
  exact h.symm

/-- a valid sample is on if its integer is 8 at least -/
theorem half_val : Val Ieee.single 1056964608 (8 * (2 ^ 145 : Nat)) := by
  have h : Ieee.single.read 1056964608 = .number false (2 ^ 23) (-24) := by decide +kernel
  have k := Val.of_read h (by decide)
  rw [signed_eq] at k
  exact k
theorem onB_unit {x : Nat} (h : sampI x = 0) : onB x = decide (8 ≤ unitI x) := by
  obtain ⟨V, hV, hb, e⟩ := unit_of h
  have h1 : (FloatKind.f32.format.order x 1056964608 == some .gt) = decide (8 * (2 ^ 145 : Nat) < V) := order_gt_iff hV half_val
  have h2 : (FloatKind.f32.format.order x 1056964608 == some .eq) = decide (V = 8 * (2 ^ 145 : Nat)) := order_eq_iff hV half_val
  unfold onB
  rw [h1, h2, e]
  unfold cutI
  obtain ⟨P, hP⟩ : ∃ P : Nat, P = 2 ^ 145 := ⟨_, rfl⟩
  have hp0 : 0 < P := by rw [hP]; exact Nat.pow_pos (by decide)
  rw [← hP]
  have key : (8 ≤ V.tdiv (P : Int)) ↔ 8 * (P : Int) ≤ V := by
    by_cases hn : 0 ≤ V
    · rw [Int.tdiv_eq_ediv_of_nonneg hn, Int.le_ediv_iff_mul_le (by omega)]
    · constructor
      · intro g
        have : V.tdiv (P : Int) ≤ 0 := by
          have h3 := Int.tdiv_nonneg (a := -V) (b := P) (by omega) (by omega)
          rw [Int.neg_tdiv] at h3
          omega
        omega
      · intro g
        have : (0 : Int) ≤ 8 * (P : Int) := by omega
        omega
  by_cases g : 8 * (P : Int) ≤ V
  · rw [decide_eq_true (key.2 g)]
    by_cases g2 : V = 8 * (P : Int)
    · rw [decide_eq_true g2, Bool.or_true]
    · rw [decide_eq_true (by omega : 8 * (P : Int) < V), Bool.true_or]
  · rw [decide_eq_false (fun h => g (key.1 h)), decide_eq_false (by omega : ¬ 8 * (P : Int) < V), decide_eq_false (by omega : ¬ V = 8 * (P : Int))]
    rfl
end Go.Proofs.YtdglifjhkjdogaaGreatDoor
