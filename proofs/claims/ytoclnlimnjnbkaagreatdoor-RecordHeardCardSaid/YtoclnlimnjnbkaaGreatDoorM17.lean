import Derived.Test.YtoclnlimnjnbkaaGreatDoorM16
namespace Go.Proofs.YtoclnlimnjnbkaaGreatDoor
set_option linter.all false
open Go.RowKit Go.Maps Go.Fl
abbrev Run := Bool × Nat
def valR (b : Bool) : Nat := if b then one32 else 0
theorem onB_val (b : Bool) : onB (valR b) = b := by cases b <;> kernel_rfl
def flatR (rs : List Run) : List Nat := rs.flatMap fun r => List.replicate r.2 (valR r.1)
theorem flatR_nil : flatR [] = [] := rfl
theorem flatR_cons (r : Run) (rs : List Run) : flatR (r :: rs) = List.replicate r.2 (valR r.1) ++ flatR rs := by simp [flatR]
theorem flatR_app (a b : List Run) : flatR (a ++ b) = flatR a ++ flatR b := by simp [flatR]
def altT (d : Nat) : Bool → List Run → Bool → Prop
  | b, [], e => b = e
  | b, r :: rs, e => r.1 = b ∧ d ≤ r.2 ∧ altT d (!b) rs e
theorem altT_app {d : Nat} : ∀ {b m e : Bool} {xs ys : List Run}, altT d b xs m → altT d m ys e → altT d b (xs ++ ys) e
  | b, m, e, [], ys, h, k => by cases h; exact k
  | b, m, e, r :: xs, ys, h, k => ⟨h.1, h.2.1, altT_app h.2.2 k⟩
theorem runL_flat (b : Bool) (rs : List Run) (e : Bool) (h : altT 1 (!b) rs e) : ∀ n, runL b (List.replicate n (valR b) ++ flatR rs) = n
  | 0 => by
    cases rs with
    | nil => rfl
    | cons r rs =>
      obtain ⟨h1, h2, h3⟩ := h
      obtain ⟨m, hm⟩ : ∃ m, r.2 = m + 1 := ⟨r.2 - 1, by omega⟩
      rw [flatR_cons, hm, List.replicate_succ]
      show (if onB (valR r.1) = b then _ else 0) = 0
      rw [onB_val, h1, if_neg (by cases b <;> simp)]
  | n + 1 => by
    rw [List.replicate_succ]
    show (if onB (valR b) = b then runL b (List.replicate n (valR b) ++ flatR rs) + 1 else 0) = n + 1
    rw [if_pos (onB_val b), runL_flat b rs e h n]
def stpR (d : Int) (s : HeS) (r : Run) : HeS := if r.1 = true then onS s (r.2 : Int) d else offS s (r.2 : Int) d
theorem hearGo_flat (d : Int) : ∀ (rs : List Run) (b e : Bool) (pre : List Nat) (f : Nat) (s : HeS), altT 1 b rs e → (flatR rs).length ≤ f → hearGo (pre ++ flatR rs) d f pre.length s = rs.foldl (stpR d) s
  | [], b, e, pre, f, s, _, _ => by
    cases f with
    | zero => rfl
    | succ f =>
      show (if pre.length < (pre ++ flatR []).length then _ else s) = s
      rw [if_neg (by simp [flatR])]
  | r :: rs, b, e, pre, f, s, h, hf => by
    obtain ⟨h1, h2, h3⟩ := h
    obtain ⟨m, hm⟩ : ∃ m, r.2 = m + 1 := ⟨r.2 - 1, by omega⟩
    have hl : (flatR (r :: rs)).length = m + 1 + (flatR rs).length := by rw [flatR_cons, List.length_append, List.length_replicate, hm]
    obtain ⟨f', rfl⟩ : ∃ f', f = f' + 1 := ⟨f - 1, by omega⟩
    have hxs : pre ++ flatR (r :: rs) = pre ++ valR r.1 :: (List.replicate m (valR r.1) ++ flatR rs) := by rw [flatR_cons, hm, List.replicate_succ, List.cons_append]
    have hg : (pre ++ flatR (r :: rs)).getD pre.length 0 = valR r.1 := by rw [hxs]; simp
    have hd : (pre ++ flatR (r :: rs)).drop (pre.length + 1) = List.replicate m (valR r.1) ++ flatR rs := by
      rw [hxs, ← List.drop_drop, List.drop_left]; rfl
    have hsp : spanEndL (pre ++ flatR (r :: rs)) pre.length = pre.length + (m + 1) := by
      unfold spanEndL
      rw [hg, hd, onB_val, runL_flat r.1 rs e (by rw [h1]; exact h3) m]
      omega
    have hn : ((spanEndL (pre ++ flatR (r :: rs)) pre.length : Nat) : Int) - (pre.length : Int) = (r.2 : Int) := by rw [hsp, hm]; omega
    show (if pre.length < (pre ++ flatR (r :: rs)).length then hearGo (pre ++ flatR (r :: rs)) d f' (spanEndL (pre ++ flatR (r :: rs)) pre.length) (if onB ((pre ++ flatR (r :: rs)).getD pre.length 0) then onS s (((spanEndL (pre ++ flatR (r :: rs)) pre.length : Nat) : Int) - (pre.length : Int)) d else offS s (((spanEndL (pre ++ flatR (r :: rs)) pre.length : Nat) : Int) - (pre.length : Int)) d) else s) = _
    rw [if_pos (by rw [List.length_append, hl]; omega), hn, hg, onB_val, hsp]
    have hp : (pre ++ List.replicate r.2 (valR r.1)).length = pre.length + (m + 1) := by rw [List.length_append, List.length_replicate, hm]
    have hx2 : pre ++ flatR (r :: rs) = (pre ++ List.replicate r.2 (valR r.1)) ++ flatR rs := by rw [flatR_cons, List.append_assoc]
    rw [hx2, ← hp]
    exact hearGo_flat d rs (!b) e (pre ++ List.replicate r.2 (valR r.1)) f' _ h3 (by omega)
theorem heard_flat {d : Int} {rs : List Run} {b e : Bool} (h : altT 1 b rs e) : heardL (flatR rs) d = (endS (rs.foldl (stpR d) ([], ⟨#[]⟩, ⟨#[]⟩))).1 := by
  unfold heardL
  have k := hearGo_flat d rs b e [] (flatR rs).length ([], ⟨#[]⟩, ⟨#[]⟩) h (Nat.le_refl _)
  rw [List.nil_append] at k
  exact congrArg (fun s => (endS s).1) k
def pieceR (d i : Nat) (c : UInt8) : List Run := (if i = 0 then [] else [(false, d)]) ++ [(true, if c.toNat = 49 then 3 * d else d)]
def letRP (d : Nat) (l : List UInt8) : Nat → List Run
  | 0 => []
  | p + 1 => letRP d l p ++ pieceR d p (l.getD p 0)
def letR (d : Nat) (l : List UInt8) : List Run := letRP d l l.length
def keyRP (d : Nat) (l : List UInt8) : Nat → List Run
  | 0 => []
  | p + 1 => keyRP d l p ++ ((if p = 0 then [] else [(false, 3 * d)]) ++ letR d (codeL ((l.getD p 0).toNat - 65)))
def keyR (d : Nat) (l : List UInt8) : List Run := keyRP d l l.length ++ [(false, 7 * d)]
theorem flat_piece (d i : Nat) (c : UInt8) : flatR (pieceR d i c) = pieceK d i c := by
  unfold pieceR pieceK
  rw [flatR_app]
  congr 1
  · split <;> simp [flatR, valR]
  · simp [flatR, valR]
theorem flat_letP (d : Nat) (l : List UInt8) : ∀ p, flatR (letRP d l p) = letP d l p
  | 0 => rfl
  | p + 1 => by rw [letRP, letP, flatR_app, flat_letP d l p, flat_piece]
theorem flat_let (d : Nat) (l : List UInt8) : flatR (letR d l) = letS d l := flat_letP d l _
theorem flat_keyP (d : Nat) (l : List UInt8) : ∀ p, flatR (keyRP d l p) = keyP d l p
  | 0 => rfl
  | p + 1 => by
    rw [keyRP, keyP, flatR_app, flat_keyP d l p, flatR_app, flat_let]
    congr 2
    split <;> simp [flatR, valR]
theorem flat_key (d : Nat) (l : List UInt8) : flatR (keyR d l) = keyedL d l := by
  unfold keyR keyedL
  rw [flatR_app, flat_keyP]
  congr 1
  simp [flatR, valR]
theorem alt_piece {d i : Nat} (c : UInt8) : altT d (decide (i = 0)) (pieceR d i c) false := by
  unfold pieceR
  by_cases h : i = 0
  · rw [if_pos h, decide_eq_true h]
    exact ⟨rfl, by dsimp only; split <;> omega, rfl⟩
  · rw [if_neg h, decide_eq_false h]
    exact ⟨rfl, Nat.le_refl _, rfl, by dsimp only; split <;> omega, rfl⟩
theorem alt_letP {d : Nat} (l : List UInt8) : ∀ p, altT d true (letRP d l p) (decide (p = 0))
  | 0 => rfl
  | p + 1 => altT_app (alt_letP l p) (alt_piece _)
theorem alt_let {d : Nat} {l : List UInt8} (h : l ≠ []) : altT d true (letR d l) false := by
  have k := alt_letP (d := d) l l.length
  rw [decide_eq_false (by simpa using h)] at k
  exact k
theorem codeL_ne : ∀ k : Fin 26, codeL k ≠ [] := by decide +kernel
theorem alt_keyP {d : Nat} {l : List UInt8} (hl : ∀ c ∈ l, 65 ≤ c.toNat ∧ c.toNat ≤ 90) : ∀ p, p ≤ l.length → altT d true (keyRP d l p) (decide (p = 0))
  | 0, _ => rfl
  | p + 1, hp => by
    have hm : l.getD p 0 ∈ l := by rw [List.getD_eq_getElem?_getD, List.getElem?_eq_getElem (by omega)]; exact List.getElem_mem _
    have hc := hl _ hm
    refine altT_app (alt_keyP hl p (by omega)) (altT_app (m := true) ?_ (alt_let (codeL_ne ⟨(l.getD p 0).toNat - 65, by omega⟩)))
    by_cases h : p = 0
    · rw [if_pos h, decide_eq_true h]; rfl
    · rw [if_neg h, decide_eq_false h]; exact ⟨rfl, by dsimp only; omega, rfl⟩
theorem alt_key {d : Nat} {l : List UInt8} (h0 : l ≠ []) (hl : ∀ c ∈ l, 65 ≤ c.toNat ∧ c.toNat ≤ 90) : altT d true (keyR d l) true := by
  have k := alt_keyP (d := d) hl l.length (Nat.le_refl _)
  rw [decide_eq_false (by simpa using h0)] at k
  exact altT_app k ⟨rfl, by dsimp only; omega, rfl⟩
def okW (l : List UInt8) : Prop := l ≠ [] ∧ ∀ c ∈ l, 65 ≤ c.toNat ∧ c.toNat ≤ 90
def allR (d : Nat) (ws : List (List UInt8)) : List Run := ws.flatMap (keyR d)
theorem alt_all {d : Nat} : ∀ {ws : List (List UInt8)}, (∀ w ∈ ws, okW w) → altT d true (allR d ws) true
  | [], _ => rfl
  | w :: ws, h => by
    have h1 := h w List.mem_cons_self
    exact altT_app (alt_key h1.1 h1.2) (alt_all fun v hv => h v (List.mem_cons_of_mem _ hv))
theorem flat_all (d : Nat) (ws : List (List UInt8)) : flatR (allR d ws) = ws.flatMap (keyedL d) := by
  induction ws with
  | nil => rfl
  | cons w ws ih =>
    have e : allR d (w :: ws) = keyR d w ++ allR d ws := by simp [allR]
    rw [e, flatR_app, ih, flat_key]; simp
def nearR (d : Nat) : List Run → List Run → Prop
  | [], [] => True
  | r :: rs, q :: qs => r.1 = q.1 ∧ r.2 < q.2 + d ∧ q.2 < r.2 + d ∧ nearR d rs qs
  | _, _ => False
theorem near_self {d : Nat} (hd : 1 ≤ d) : ∀ rs, nearR d rs rs
  | [] => True.intro
  | r :: rs => ⟨rfl, by omega, by omega, near_self hd rs⟩
theorem near_app {d : Nat} : ∀ {a b qs : List Run}, nearR d (a ++ b) qs → ∃ qa qb, qs = qa ++ qb ∧ nearR d a qa ∧ nearR d b qb
  | [], b, qs, h => ⟨[], qs, rfl, True.intro, h⟩
  | r :: a, b, [], h => by cases h
  | r :: a, b, q :: qs, h => by
    obtain ⟨qa, qb, e, h1, h2⟩ := near_app h.2.2.2
    exact ⟨q :: qa, qb, by rw [e]; rfl, ⟨h.1, h.2.1, h.2.2.1, h1⟩, h2⟩
theorem near_alt {d : Nat} : ∀ {b e : Bool} {rs qs : List Run}, altT d b rs e → nearR d rs qs → altT 1 b qs e
  | b, e, [], [], h, _ => h
  | b, e, [], _ :: _, _, h => by cases h
  | b, e, _ :: _, [], _, h => by cases h
  | b, e, r :: rs, q :: qs, h, k => ⟨k.1 ▸ h.1, by have := h.2.1; have := k.2.1; omega, near_alt h.2.2 k.2.2.2⟩
theorem near_one {d : Nat} {r : Run} {qs : List Run} (h : nearR d [r] qs) : ∃ n, qs = [(r.1, n)] ∧ r.2 < n + d ∧ n < r.2 + d := by
  match qs, h with
  | [q], h => exact ⟨q.2, by rw [h.1], h.2.1, h.2.2.1⟩
def str (l : List UInt8) : ByteArray := ⟨l.toArray⟩
theorem str_snoc (l : List UInt8) (c : UInt8) : str l ++ str [c] = str (l ++ [c]) := by
  apply ByteArray.ext
  rw [ByteArray.data_append]
  simp [str]
theorem step_on {d : Nat} {n : Nat} {s : HeS} {c : UInt8} (hd : 1 ≤ d) (hc : c = 48 ∨ c = 49) (h1 : (if c.toNat = 49 then 3 * d else d) < n + d) (h2 : n < (if c.toNat = 49 then 3 * d else d) + d) : stpR (d : Int) s (true, n) = (s.1, s.2.1, s.2.2 ++ str [c]) := by
  unfold stpR onS
  rw [if_pos rfl]
  rcases hc with rfl | rfl
  · have e : ((48 : UInt8).toNat = 49) = False := by simp
    rw [if_neg (by rw [e]; exact id)] at h1 h2
    dsimp only
    rw [if_pos (by omega)]; rfl
  · have e : (49 : UInt8).toNat = 49 := rfl
    rw [if_pos e] at h1 h2
    dsimp only
    rw [if_neg (by omega)]; rfl
theorem fold_letP {d : Nat} (hd : 1 ≤ d) {l : List UInt8} (hl : ∀ c ∈ l, c = 48 ∨ c = 49) (wds : List ByteArray) (wd : ByteArray) : ∀ (p : Nat) (qs : List Run), p ≤ l.length → nearR d (letRP d l p) qs → qs.foldl (stpR (d : Int)) (wds, wd, ⟨#[]⟩) = (wds, wd, str (l.take p))
  | 0, qs, _, h => by
    cases qs with
    | nil => rfl
    | cons q qs => cases h
  | p + 1, qs, hp, h => by
    rw [letRP] at h
    obtain ⟨qa, qb, rfl, h1, h2⟩ := near_app h
    rw [List.foldl_append, fold_letP hd hl wds wd p qa (by omega) h1]
    have hm : l.getD p 0 ∈ l := by rw [List.getD_eq_getElem?_getD, List.getElem?_eq_getElem (by omega)]; exact List.getElem_mem _
    have hc := hl _ hm
    have ht : str (l.take (p + 1)) = str (l.take p) ++ str [l.getD p 0] := by
      rw [str_snoc, List.take_succ_eq_append_getElem (by omega), List.getD_eq_getElem?_getD, List.getElem?_eq_getElem (by omega)]; rfl
    rw [ht]
    unfold pieceR at h2
    obtain ⟨qc, qd, rfl, h3, h4⟩ := near_app h2
    obtain ⟨n, rfl, k1, k2⟩ := near_one h4
    have hoff : qc.foldl (stpR (d : Int)) (wds, wd, str (l.take p)) = (wds, wd, str (l.take p)) := by
      by_cases h0 : p = 0
      · rw [if_pos h0] at h3
        cases qc with
        | nil => rfl
        | cons q qs => cases h3
      · rw [if_neg h0] at h3
        obtain ⟨m, rfl, j1, j2⟩ := near_one h3
        show offS _ (m : Int) (d : Int) = _
        unfold offS
        dsimp only at j1 j2
        rw [if_neg (by omega), if_neg (by omega)]
    rw [List.foldl_append, hoff]
    exact step_on hd hc k1 k2
theorem codeL_bits : ∀ k : Fin 26, ∀ c ∈ codeL k, c = 48 ∨ c = 49 := by decide +kernel
theorem fold_let {d : Nat} (hd : 1 ≤ d) {k : Nat} (hk : k < 26) (wds : List ByteArray) (wd : ByteArray) {qs : List Run} (h : nearR d (letR d (codeL k)) qs) : qs.foldl (stpR (d : Int)) (wds, wd, ⟨#[]⟩) = (wds, wd, codeS k) := by
  have h1 := fold_letP hd (codeL_bits ⟨k, hk⟩) wds wd _ qs (Nat.le_refl _) h
  rw [List.take_length] at h1
  exact h1
theorem lett_code : ∀ k : Nat, k < 26 → lettB (codeS k) = letQ k := by
  intro k hk
  rcases (show k = 0 ∨ k = 1 ∨ k = 2 ∨ k = 3 ∨ k = 4 ∨ k = 5 ∨ k = 6 ∨ k = 7 ∨ k = 8 ∨ k = 9 ∨ k = 10 ∨ k = 11 ∨ k = 12 ∨ k = 13 ∨ k = 14 ∨ k = 15 ∨ k = 16 ∨ k = 17 ∨ k = 18 ∨ k = 19 ∨ k = 20 ∨ k = 21 ∨ k = 22 ∨ k = 23 ∨ k = 24 ∨ k = 25 by omega) with rfl | rfl | rfl | rfl | rfl | rfl | rfl | rfl | rfl | rfl | rfl | rfl | rfl | rfl | rfl | rfl | rfl | rfl | rfl | rfl | rfl | rfl | rfl | rfl | rfl | rfl
  all_goals kernel_rfl
theorem lett_of {l : List UInt8} {p : Nat} (hp : p < l.length) (hl : ∀ c ∈ l, 65 ≤ c.toNat ∧ c.toNat ≤ 90) : lettI (str (l.take p)) (codeS ((l.getD p 0).toNat - 65)) = str (l.take (p + 1)) := by
  have hm : l.getD p 0 ∈ l := by rw [List.getD_eq_getElem?_getD, List.getElem?_eq_getElem hp]; exact List.getElem_mem _
  have hc := hl _ hm
  have hne := codeL_ne ⟨(l.getD p 0).toNat - 65, by omega⟩
  have h0 : (codeS ((l.getD p 0).toNat - 65)).toList.isEmpty = false := by
    cases he : (codeS ((l.getD p 0).toNat - 65)).toList.isEmpty with
    | false => rfl
    | true =>
      exfalso
      apply hne
      have h2 := List.isEmpty_iff.1 he
      rw [ByteArray.toList_eq] at h2
      exact h2
  unfold lettI
  rw [h0, if_neg (by simp), lett_code _ (by omega)]
  have e : letQ ((l.getD p 0).toNat - 65) = str [l.getD p 0] := by
    unfold letQ str
    congr 2
    rw [show 65 + ((l.getD p 0).toNat - 65) = (l.getD p 0).toNat by omega, UInt8.ofNat_toNat]
  rw [e, str_snoc, List.take_succ_eq_append_getElem hp, List.getD_eq_getElem?_getD, List.getElem?_eq_getElem hp]; rfl
def stW (wds : List ByteArray) (l : List UInt8) (p : Nat) : HeS := if p = 0 then (wds, ⟨#[]⟩, ⟨#[]⟩) else (wds, str (l.take (p - 1)), codeS ((l.getD (p - 1) 0).toNat - 65))
theorem fold_keyP {d : Nat} (hd : 1 ≤ d) {l : List UInt8} (hl : ∀ c ∈ l, 65 ≤ c.toNat ∧ c.toNat ≤ 90) (wds : List ByteArray) : ∀ (p : Nat) (qs : List Run), p ≤ l.length → nearR d (keyRP d l p) qs → qs.foldl (stpR (d : Int)) (wds, ⟨#[]⟩, ⟨#[]⟩) = stW wds l p
  | 0, qs, _, h => by
    cases qs with
    | nil => rfl
    | cons q qs => cases h
  | p + 1, qs, hp, h => by
    rw [keyRP] at h
    obtain ⟨qa, qb, rfl, h1, h2⟩ := near_app h
    obtain ⟨qc, qd, rfl, h3, h4⟩ := near_app h2
    rw [List.foldl_append, fold_keyP hd hl wds p qa (by omega) h1, List.foldl_append]
    have hm : l.getD p 0 ∈ l := by rw [List.getD_eq_getElem?_getD, List.getElem?_eq_getElem (by omega)]; exact List.getElem_mem _
    have hc := hl _ hm
    have hoff : qc.foldl (stpR (d : Int)) (stW wds l p) = (wds, str (l.take p), ⟨#[]⟩) := by
      by_cases h0 : p = 0
      · rw [if_pos h0] at h3
        subst h0
        cases qc with
        | nil => rfl
        | cons q qs => cases h3
      · rw [if_neg h0] at h3
        obtain ⟨m, rfl, j1, j2⟩ := near_one h3
        unfold stW
        rw [if_neg h0]
        show offS _ (m : Int) (d : Int) = _
        unfold offS
        dsimp only at j1 j2
        rw [if_neg (by omega), if_pos (by omega)]
        have k := lett_of (p := p - 1) (by omega) hl
        rw [show p - 1 + 1 = p by omega] at k
        dsimp only
        rw [k]
    rw [hoff, fold_let hd (by omega) wds _ h4]
    unfold stW
    rw [if_neg (by omega)]
    rfl
theorem fold_key {d : Nat} (hd : 1 ≤ d) {l : List UInt8} (h0 : l ≠ []) (hl : ∀ c ∈ l, 65 ≤ c.toNat ∧ c.toNat ≤ 90) (wds : List ByteArray) {qs : List Run} (h : nearR d (keyR d l) qs) : qs.foldl (stpR (d : Int)) (wds, ⟨#[]⟩, ⟨#[]⟩) = (wds ++ [str l], ⟨#[]⟩, ⟨#[]⟩) := by
  obtain ⟨qa, qb, rfl, h1, h2⟩ := near_app h
  obtain ⟨n, rfl, j1, j2⟩ := near_one h2
  have hn : 0 < l.length := by
    cases l with
    | nil => exact absurd rfl h0
    | cons a l => simp
  rw [List.foldl_append, fold_keyP hd hl wds l.length qa (Nat.le_refl _) h1]
  show offS (stW wds l l.length) (n : Int) (d : Int) = _
  unfold offS
  dsimp only at j1 j2
  rw [if_pos (by omega)]
  unfold endS stW
  rw [if_neg (by omega)]
  dsimp only
  have k := lett_of (p := l.length - 1) (by omega) hl
  rw [show l.length - 1 + 1 = l.length by omega, List.take_length] at k
  rw [k]
  unfold addW
  have he : (str l).toList.isEmpty = false := by
    rw [ByteArray.toList_eq]
    show l.isEmpty = false
    cases l with
    | nil => exact absurd rfl h0
    | cons a l => rfl
  rw [he, if_neg (by simp)]
theorem fold_all {d : Nat} (hd : 1 ≤ d) : ∀ {ws : List (List UInt8)}, (∀ w ∈ ws, okW w) → ∀ (wds : List ByteArray) {qs : List Run}, nearR d (allR d ws) qs → qs.foldl (stpR (d : Int)) (wds, ⟨#[]⟩, ⟨#[]⟩) = (wds ++ ws.map str, ⟨#[]⟩, ⟨#[]⟩)
  | [], _, wds, qs, h => by
    cases qs with
    | nil => simp
    | cons q qs => cases h
  | w :: ws, hw, wds, qs, h => by
    have h1 := hw w List.mem_cons_self
    have e : allR d (w :: ws) = keyR d w ++ allR d ws := by simp [allR]
    rw [e] at h
    obtain ⟨qa, qb, rfl, k1, k2⟩ := near_app h
    rw [List.foldl_append, fold_key hd h1.1 h1.2 wds k1, fold_all hd (fun v hv => hw v (List.mem_cons_of_mem _ hv)) _ k2]
    simp
theorem heard_near {d : Nat} (hd : 1 ≤ d) {ws : List (List UInt8)} (hw : ∀ w ∈ ws, okW w) {qs : List Run} (h : nearR d (allR d ws) qs) : heardL (flatR qs) (d : Int) = ws.map str := by
  rw [heard_flat (near_alt (alt_all hw) h), fold_all hd hw [] h]
  show addW ([] ++ ws.map str) (lettI ⟨#[]⟩ ⟨#[]⟩) = _
  have e : lettI ⟨#[]⟩ ⟨#[]⟩ = ⟨#[]⟩ := by
    unfold lettI
    rw [if_pos (by rw [ByteArray.toList_eq]; rfl)]
  rw [e, List.nil_append]
  unfold addW
  rw [if_pos (by rw [ByteArray.toList_eq]; rfl)]
theorem heard_all {d : Nat} (hd : 1 ≤ d) {ws : List (List UInt8)} (hw : ∀ w ∈ ws, okW w) : heardL (ws.flatMap (keyedL d)) (d : Int) = ws.map str := by
  rw [← flat_all]
  exact heard_near hd hw (near_self hd _)
theorem str_inj {a b : List UInt8} (h : str a = str b) : a = b := by
  have h1 := congrArg (fun s : ByteArray => s.data.toList) h
  exact h1
theorem keyed_inj {u v : List UInt8} (hu : okW u) (hv : okW v) (h : keyedL 1 u = keyedL 1 v) : u = v := by
  have h1 := heard_all (d := 1) (Nat.le_refl _) (ws := [u]) (fun w hw => by rw [List.mem_singleton.1 hw]; exact hu)
  have h2 := heard_all (d := 1) (Nat.le_refl _) (ws := [v]) (fun w hw => by rw [List.mem_singleton.1 hw]; exact hv)
  simp only [List.flatMap_cons, List.flatMap_nil, List.append_nil, List.map_cons, List.map_nil] at h1 h2
  rw [h] at h1
  rw [h1] at h2
  injection h2 with h3
  exact str_inj h3
theorem piece_len (d i : Nat) (c : UInt8) : (pieceK d i c).length = d * (pieceK 1 i c).length := by
  unfold pieceK
  split <;> split <;> simp <;> omega
theorem letP_len (d : Nat) (l : List UInt8) : ∀ p, (letP d l p).length = d * (letP 1 l p).length
  | 0 => rfl
  | p + 1 => by rw [letP, letP, List.length_append, List.length_append, letP_len d l p, piece_len, Nat.mul_add]
theorem letS_len (d : Nat) (l : List UInt8) : (letS d l).length = d * (letS 1 l).length := letP_len d l _
theorem letS_13 : ∀ k : Fin 26, (letS 1 (codeL k)).length ≤ 13 := by decide +kernel
theorem keyP_len (d : Nat) (l : List UInt8) : ∀ p, (keyP d l p).length = d * (keyP 1 l p).length
  | 0 => rfl
  | p + 1 => by
    rw [keyP, keyP, List.length_append, List.length_append, List.length_append, List.length_append, keyP_len d l p, letS_len, Nat.mul_add, Nat.mul_add]
    congr 2
    split <;> simp
    omega
theorem keyed_len (d : Nat) (l : List UInt8) : (keyedL d l).length = d * (keyedL 1 l).length := by
  unfold keyedL
  rw [List.length_append, List.length_append, keyP_len, Nat.mul_add, List.length_replicate, List.length_replicate]
  omega
theorem keyP_16 {l : List UInt8} (hl : ∀ c ∈ l, 65 ≤ c.toNat ∧ c.toNat ≤ 90) : ∀ p, p ≤ l.length → (keyP 1 l p).length ≤ 16 * p
  | 0, _ => by simp [keyP]
  | p + 1, hp => by
    have hm : l.getD p 0 ∈ l := by rw [List.getD_eq_getElem?_getD, List.getElem?_eq_getElem (by omega)]; exact List.getElem_mem _
    have hc := hl _ hm
    have h1 := keyP_16 hl p (by omega)
    have h2 := letS_13 ⟨(l.getD p 0).toNat - 65, by omega⟩
    rw [keyP, List.length_append, List.length_append]
    have h3 : (if p = 0 then ([] : List Nat) else List.replicate (3 * 1) 0).length ≤ 3 := by split <;> simp
    dsimp only at h2
    omega
theorem keyed_71 {l : List UInt8} (h4 : l.length ≤ 4) (hl : ∀ c ∈ l, 65 ≤ c.toNat ∧ c.toNat ≤ 90) : (keyedL 1 l).length ≤ 71 := by
  unfold keyedL
  rw [List.length_append, List.length_replicate]
  have := keyP_16 hl l.length (Nat.le_refl _)
  omega
theorem sameF_val : ∀ (a b : List Nat), (∀ x ∈ a, x = 0 ∨ x = one32) → (∀ x ∈ b, x = 0 ∨ x = one32) → sameF a b = decide (a = b)
  | [], [], _, _ => rfl
  | [], _ :: _, _, _ => rfl
  | _ :: _, [], _, _ => rfl
  | x :: a, y :: b, ha, hb => by
    have h := sameF_val a b (fun z hz => ha z (List.mem_cons_of_mem _ hz)) (fun z hz => hb z (List.mem_cons_of_mem _ hz))
    show ((FloatKind.f32.format.order x y == some .eq) && sameF a b) = _
    rw [h]
    have hx := ha x List.mem_cons_self
    have hy := hb y List.mem_cons_self
    have o1 : (FloatKind.f32.format.order 0 0 == some .eq) = true := by kernel_rfl
    have o2 : (FloatKind.f32.format.order one32 one32 == some .eq) = true := by kernel_rfl
    have o3 : (FloatKind.f32.format.order 0 one32 == some .eq) = false := by kernel_rfl
    have o4 : (FloatKind.f32.format.order one32 0 == some .eq) = false := by kernel_rfl
    have n1 : ¬ (0 = one32) := by decide
    have n2 : ¬ (one32 = 0) := by decide
    rcases hx with rfl | rfl <;> rcases hy with rfl | rfl
    · rw [o1]; simp
    · rw [o3]; simp [n1]
    · rw [o4]; simp [n2]
    · rw [o2]; simp
end Go.Proofs.YtoclnlimnjnbkaaGreatDoor
namespace Go.Proofs.YtoclnlimnjnbkaaGreatDoor
set_option linter.all false
open Go.RowKit Go.Fl
theorem samp_one : sampI one32 = 0 := by decide +kernel
theorem letP_mem (d : Nat) (l : List UInt8) (p : Nat) : ∀ x ∈ letP d l p, x = 0 ∨ x = one32 := by
  induction p with
  | zero => intro x hx; simp [letP] at hx
  | succ p ih =>
    intro x hx
    rw [letP] at hx
    unfold pieceK at hx
    rcases List.mem_append.1 hx with h | h
    · exact ih x h
    · rcases List.mem_append.1 h with h | h
      · split at h
        · simp at h
        · exact .inl (List.eq_of_mem_replicate h)
      · exact .inr (List.eq_of_mem_replicate h)
theorem keyP_mem (d : Nat) (l : List UInt8) (p : Nat) : ∀ x ∈ keyP d l p, x = 0 ∨ x = one32 := by
  induction p with
  | zero => intro x hx; simp [keyP] at hx
  | succ p ih =>
    intro x hx
    rw [keyP] at hx
    rcases List.mem_append.1 hx with h | h
    · exact ih x h
    · rcases List.mem_append.1 h with h | h
      · split at h
        · simp at h
        · exact .inl (List.eq_of_mem_replicate h)
      · exact letP_mem d _ _ x h
end Go.Proofs.YtoclnlimnjnbkaaGreatDoor
namespace Go.Proofs.YtoclnlimnjnbkaaGreatDoor
set_option linter.all false
open Go.RowKit Go.Maps Go.Fl
theorem altT_split {d : Nat} : ∀ {b e : Bool} {xs ys : List Run}, altT d b (xs ++ ys) e → ∃ m, altT d b xs m ∧ altT d m ys e
  | b, e, [], ys, h => ⟨b, rfl, h⟩
  | b, e, r :: xs, ys, h => by
    obtain ⟨m, h1, h2⟩ := altT_split h.2.2
    exact ⟨m, ⟨h.1, h.2.1, h1⟩, h2⟩
theorem alt_ge {d : Nat} : ∀ {b e : Bool} {rs : List Run}, altT d b rs e → ∀ r ∈ rs, d ≤ r.2
  | b, e, [], _, r, hr => by cases hr
  | b, e, q :: rs, h, r, hr => by
    cases hr with
    | head => exact h.2.1
    | tail _ hr => exact alt_ge h.2.2 r hr
theorem flat_ge : ∀ {rs : List Run}, (∀ r ∈ rs, 1 ≤ r.2) → rs.length ≤ (flatR rs).length
  | [], _ => Nat.zero_le _
  | r :: rs, h => by
    have h1 := h r List.mem_cons_self
    have h2 := flat_ge (rs := rs) fun q hq => h q (List.mem_cons_of_mem _ hq)
    rw [flatR_cons, List.length_append, List.length_replicate, List.length_cons]
    omega
theorem flat_take {rs : List Run} {j : Nat} (hj : j < rs.length) : flatR (rs.take (j + 1)) = flatR (rs.take j) ++ List.replicate rs[j].2 (valR rs[j].1) := by
  rw [List.take_succ_eq_append_getElem hj, flatR_app]
  congr 1
  simp [flatR]
theorem flat_split {rs : List Run} {j : Nat} (hj : j < rs.length) : flatR rs = flatR (rs.take j) ++ (List.replicate rs[j].2 (valR rs[j].1) ++ flatR (rs.drop (j + 1))) := by
  rw [← flatR_cons, ← flatR_app, ← List.drop_eq_getElem_cons hj, List.take_append_drop]
theorem run_in {rs : List Run} {j : Nat} (hj : j < rs.length) {q : Nat} (hq : q < rs[j].2) : (flatR rs)[(flatR (rs.take j)).length + q]? = some (valR rs[j].1) := by
  rw [flat_split hj, List.getElem?_append_right (Nat.le_add_right _ _), Nat.add_sub_cancel_left, List.getElem?_append_left (by rw [List.length_replicate]; exact hq), List.getElem?_replicate, if_pos hq]
theorem run_end {d : Nat} {b e : Bool} {rs : List Run} (h : altT d b rs e) (hd : 1 ≤ d) {j : Nat} (hj : j < rs.length) (hl : (flatR (rs.take j)).length + rs[j].2 < (flatR rs).length) : (flatR rs)[(flatR (rs.take j)).length + rs[j].2]? = some (valR (!rs[j].1)) := by
  have hs := flat_split hj
  rw [hs, List.getElem?_append_right (Nat.le_add_right _ _), Nat.add_sub_cancel_left, List.getElem?_append_right (by rw [List.length_replicate]; exact Nat.le_refl _), List.length_replicate, Nat.sub_self]
  have h2 : rs = rs.take j ++ rs[j] :: rs.drop (j + 1) := by rw [← List.drop_eq_getElem_cons hj, List.take_append_drop]
  have h3 := h
  rw [h2] at h3
  obtain ⟨m, -, h4⟩ := altT_split h3
  have h5 := h4.2.2
  have h1 := h4.1
  cases hr : rs.drop (j + 1) with
  | nil =>
    exfalso
    rw [hs, hr, flatR_nil, List.append_nil, List.length_append, List.length_replicate] at hl
    omega
  | cons r qs =>
    rw [hr] at h5
    obtain ⟨k, hk⟩ : ∃ k, r.2 = k + 1 := ⟨r.2 - 1, by have := h5.2.1; omega⟩
    rw [flatR_cons, hk, List.replicate_succ, h5.1, h1]
    rfl
theorem flat_lt {d : Nat} {b e : Bool} {rs : List Run} (h : altT d b rs e) (hd : 1 ≤ d) {j : Nat} (hj : j < rs.length) : (flatR (rs.take j)).length + rs[j].2 ≤ (flatR rs).length ∧ d ≤ rs[j].2 := by
  have h1 := alt_ge h rs[j] (List.getElem_mem hj)
  rw [flat_split hj, List.length_append, List.length_append, List.length_replicate]
  exact ⟨by omega, h1⟩
def byI (bys : List Int) (sz j : Nat) : Int := (bys.getD j 0).tmod sz
theorem byI_bd {sz : Nat} (h : 1 ≤ sz) (bys : List Int) (j : Nat) : -(sz : Int) < byI bys sz j ∧ byI bys sz j < sz := by
  have h1 : (byI bys sz j).natAbs < ((sz : Nat) : Int).natAbs := by
    unfold byI
    rw [Int.natAbs_tmod]; exact Nat.mod_lt _ (by omega)
  omega
theorem byI_in {bys : List Int} {sz j : Nat} (hj : j < bys.length) : byI bys sz j = bys[j].tmod sz := by
  unfold byI; rw [List.getD_eq_getElem?_getD, List.getElem?_eq_getElem hj]; rfl
theorem byI_out {bys : List Int} {sz j : Nat} (hj : ¬ j < bys.length) : byI bys sz j = 0 := by
  unfold byI; rw [List.getD_eq_getElem?_getD, List.getElem?_eq_none (by omega)]
  show Int.tmod 0 _ = 0
  exact Int.zero_tmod _
def lqR (bys : List Int) (sz : Nat) (p : Run × Nat) : Run := (p.1.1, ((p.1.2 : Int) + byI bys sz p.2).toNat)
def looseR (bys : List Int) (sz : Nat) (rs : List Run) : List Run := rs.zipIdx.map (lqR bys sz)
theorem near_loose {sz : Nat} (h1 : 1 ≤ sz) (bys : List Int) : ∀ (rs : List Run) (k : Nat), (∀ r ∈ rs, sz ≤ r.2) → nearR sz rs ((rs.zipIdx k).map (lqR bys sz))
  | [], _, _ => True.intro
  | r :: rs, k, h => by
    have h2 := h r List.mem_cons_self
    have h3 := byI_bd h1 bys k
    refine ⟨rfl, ?_, ?_, near_loose h1 bys rs (k + 1) fun q hq => h q (List.mem_cons_of_mem _ hq)⟩
    · show r.2 < ((r.2 : Int) + byI bys sz k).toNat + sz
      omega
    · show ((r.2 : Int) + byI bys sz k).toNat < r.2 + sz
      omega
theorem loose_len {sz : Nat} (h1 : 1 ≤ sz) (bys : List Int) : ∀ (rs : List Run) (k : Nat), (∀ r ∈ rs, sz ≤ r.2) → (flatR ((rs.zipIdx k).map (lqR bys sz))).length ≤ 2 * (flatR rs).length
  | [], _, _ => Nat.le_refl _
  | r :: rs, k, h => by
    have h2 := h r List.mem_cons_self
    have h3 := byI_bd h1 bys k
    have h4 := loose_len h1 bys rs (k + 1) fun q hq => h q (List.mem_cons_of_mem _ hq)
    rw [List.zipIdx_cons, List.map_cons, flatR_cons, flatR_cons, List.length_append, List.length_append, List.length_replicate, List.length_replicate]
    have h5 : (lqR bys sz (r, k)).2 = ((r.2 : Int) + byI bys sz k).toNat := rfl
    rw [h5]
    omega
theorem loose_take {bys : List Int} {sz : Nat} {rs : List Run} {j : Nat} (hj : j < rs.length) : looseR bys sz (rs.take (j + 1)) = looseR bys sz (rs.take j) ++ [(rs[j].1, ((rs[j].2 : Int) + byI bys sz j).toNat)] := by
  unfold looseR
  rw [List.take_succ_eq_append_getElem hj, List.zipIdx_append, List.map_append]
  congr 1
  rw [List.length_take, Nat.min_eq_left (by omega)]
  simp [lqR]
theorem flat_loose {bys : List Int} {sz : Nat} {rs : List Run} {j : Nat} (hj : j < rs.length) : flatR (looseR bys sz (rs.take (j + 1))) = flatR (looseR bys sz (rs.take j)) ++ List.replicate ((rs[j].2 : Int) + byI bys sz j).toNat (valR rs[j].1) := by
  rw [loose_take hj, flatR_app]
  congr 1
  simp [flatR]
theorem firstZ : ∀ {zs : List Int}, (∀ z ∈ zs, z = 0) → firstI zs = 0
  | [], _ => rfl
  | z :: zs, h => by
    show (if z = 0 then firstI zs else z) = 0
    rw [if_pos (h z List.mem_cons_self)]
    exact firstZ fun y hy => h y (List.mem_cons_of_mem _ hy)
theorem valR_samp (b : Bool) : sampI (valR b) = 0 := by
  cases b
  · decide +kernel
  · exact samp_one
theorem flat_samp {rs : List Run} (h : (flatR rs).length ≤ 4096) : sampsI (flatR rs) = 0 := by
  unfold sampsI
  rw [if_neg (by omega)]
  refine firstZ fun z hz => ?_
  obtain ⟨x, hx, rfl⟩ := List.mem_map.1 hz
  unfold flatR at hx
  obtain ⟨r, -, hr⟩ := List.mem_flatMap.1 hx
  rw [List.eq_of_mem_replicate hr]
  exact valR_samp _
theorem valR_eq (a b : Bool) : (FloatKind.f32.format.order (valR a) (valR b) == some .eq) = (a == b) := by
  cases a <;> cases b <;> kernel_rfl
theorem keyedL_mem (d : Nat) (l : List UInt8) : ∀ x ∈ keyedL d l, x = 0 ∨ x = one32 := by
  intro x hx
  unfold keyedL at hx
  rcases List.mem_append.1 hx with h | h
  · exact keyP_mem d l _ x h
  · exact .inl (List.eq_of_mem_replicate h)
theorem pair_eq {u v : List UInt8} (hu : okW u) (hv : okW v) : sameF (keyedL 1 u) (keyedL 1 v) = ((str u).toList == (str v).toList) := by
  rw [sameF_val _ _ (keyedL_mem 1 u) (keyedL_mem 1 v)]
  by_cases h : u = v
  · subst h; simp
  · have h1 : ¬ keyedL 1 u = keyedL 1 v := fun e => h (keyed_inj hu hv e)
    have h2 : ((str u).toList == (str v).toList) = false := by
      rw [beq_eq_false_iff_ne]
      intro e
      rw [ByteArray.toList_eq, ByteArray.toList_eq] at e
      exact h e
    rw [h2, decide_eq_false h1]
end Go.Proofs.YtoclnlimnjnbkaaGreatDoor
