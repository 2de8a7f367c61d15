import Derived.Test.YtlflfieknibgmaaGreatDoorM25
namespace Go.Proofs.YtlflfieknibgmaaGreatDoor
set_option linter.all false
open Go.RowKit Go.Maps Go.Fl
abbrev Run := Bool × Nat
def valR (b : Bool) : Nat := if b then one32 else 0
theorem onB_val (b : Bool) : onB (valR b) = b := by cases b <;> kernel_rfl
def flatR (rs : List Run) : List Nat := rs.flatMap fun r => List.replicate r.2 (valR r.1)
theorem flatR_cons (r : Run) (rs : List Run) : flatR (r :: rs) = List.replicate r.2 (valR r.1) ++ flatR rs := by simp [flatR]
theorem flatR_app (a b : List Run) : flatR (a ++ b) = flatR a ++ flatR b := by simp [flatR]
def altT (d : Nat) : Bool → List Run → Bool → Prop
  | b, [], e => b = e
  | b, r :: rs, e => r.1 = b ∧ d ≤ r.2 ∧ altT d (!b) rs e
theorem altT_app {d : Nat} : ∀ {b m e : Bool} {xs ys : List Run}, altT d b xs m → altT d m ys e → altT d b (xs ++ ys) e
  | b, m, e, [], ys, h, k => by cases h; exact k
  | b, m, e, r :: xs, ys, h, k => ⟨h.1, h.2.1, altT_app h.2.2 k⟩
theorem runL_flat (b : Bool) (rs : List Run) (e : Bool) (h : altT 1 (!b) rs e) : ∀ n, runL b (List.replicate n (valR b) ++ flatR rs) = n
  | 0 => by
    cases rs with
    | nil => rfl
    | cons r rs =>
      obtain ⟨h1, h2, h3⟩ := h
      obtain ⟨m, hm⟩ : ∃ m, r.2 = m + 1 := ⟨r.2 - 1, by omega⟩
      rw [flatR_cons, hm, List.replicate_succ]
      show (if onB (valR r.1) = b then _ else 0) = 0
      rw [onB_val, h1, if_neg (by cases b <;> simp)]
  | n + 1 => by
    rw [List.replicate_succ]
    show (if onB (valR b) = b then runL b (List.replicate n (valR b) ++ flatR rs) + 1 else 0) = n + 1
    rw [if_pos (onB_val b), runL_flat b rs e h n]
def stpR (d : Int) (s : HeS) (r : Run) : HeS := if r.1 = true then onS s (r.2 : Int) d else offS s (r.2 : Int) d
theorem hearGo_flat (d : Int) : ∀ (rs : List Run) (b e : Bool) (pre : List Nat) (f : Nat) (s : HeS), altT 1 b rs e → (flatR rs).length ≤ f → hearGo (pre ++ flatR rs) d f pre.length s = rs.foldl (stpR d) s
  | [], b, e, pre, f, s, _, _ => by
    cases f with
    | zero => rfl
    | succ f =>
      show (if pre.length < (pre ++ flatR []).length then _ else s) = s
      rw [if_neg (by simp [flatR])]
  | r :: rs, b, e, pre, f, s, h, hf => by
    obtain ⟨h1, h2, h3⟩ := h
    obtain ⟨m, hm⟩ : ∃ m, r.2 = m + 1 := ⟨r.2 - 1, by omega⟩
    have hl : (flatR (r :: rs)).length = m + 1 + (flatR rs).length := by rw [flatR_cons, List.length_append, List.length_replicate, hm]
    obtain ⟨f', rfl⟩ : ∃ f', f = f' + 1 := ⟨f - 1, by omega⟩
    have hxs : pre ++ flatR (r :: rs) = pre ++ valR r.1 :: (List.replicate m (valR r.1) ++ flatR rs) := by rw [flatR_cons, hm, List.replicate_succ, List.cons_append]
    have hg : (pre ++ flatR (r :: rs)).getD pre.length 0 = valR r.1 := by rw [hxs]; simp
    have hd : (pre ++ flatR (r :: rs)).drop (pre.length + 1) = List.replicate m (valR r.1) ++ flatR rs := by
      rw [hxs, ← List.drop_drop, List.drop_left]; rfl
    have hsp : spanEndL (pre ++ flatR (r :: rs)) pre.length = pre.length + (m + 1) := by
      unfold spanEndL
      rw [hg, hd, onB_val, runL_flat r.1 rs e (by rw [h1]; exact h3) m]
      omega
    have hn : ((spanEndL (pre ++ flatR (r :: rs)) pre.length : Nat) : Int) - (pre.length : Int) = (r.2 : Int) := by rw [hsp, hm]; omega
    show (if pre.length < (pre ++ flatR (r :: rs)).length then hearGo (pre ++ flatR (r :: rs)) d f' (spanEndL (pre ++ flatR (r :: rs)) pre.length) (if onB ((pre ++ flatR (r :: rs)).getD pre.length 0) then onS s (((spanEndL (pre ++ flatR (r :: rs)) pre.length : Nat) : Int) - (pre.length : Int)) d else offS s (((spanEndL (pre ++ flatR (r :: rs)) pre.length : Nat) : Int) - (pre.length : Int)) d) else s) = _
    rw [if_pos (by rw [List.length_append, hl]; omega), hn, hg, onB_val, hsp]
    have hp : (pre ++ List.replicate r.2 (valR r.1)).length = pre.length + (m + 1) := by rw [List.length_append, List.length_replicate, hm]
    have hx2 : pre ++ flatR (r :: rs) = (pre ++ List.replicate r.2 (valR r.1)) ++ flatR rs := by rw [flatR_cons, List.append_assoc]
    rw [hx2, ← hp]
    exact hearGo_flat d rs (!b) e (pre ++ List.replicate r.2 (valR r.1)) f' _ h3 (by omega)
theorem heard_flat {d : Int} {rs : List Run} {b e : Bool} (h : altT 1 b rs e) : heardL (flatR rs) d = (endS (rs.foldl (stpR d) ([], ⟨#[]⟩, ⟨#[]⟩))).1 := by
  unfold heardL
  have k := hearGo_flat d rs b e [] (flatR rs).length ([], ⟨#[]⟩, ⟨#[]⟩) h (Nat.le_refl _)
  rw [List.nil_append] at k
  exact congrArg (fun s => (endS s).1) k
def pieceR (d i : Nat) (c : UInt8) : List Run := (if i = 0 then [] else [(false, d)]) ++ [(true, if c.toNat = 49 then 3 * d else d)]
def letRP (d : Nat) (l : List UInt8) : Nat → List Run
  | 0 => []
  | p + 1 => letRP d l p ++ pieceR d p (l.getD p 0)
def letR (d : Nat) (l : List UInt8) : List Run := letRP d l l.length
def keyRP (d : Nat) (l : List UInt8) : Nat → List Run
  | 0 => []
  | p + 1 => keyRP d l p ++ ((if p = 0 then [] else [(false, 3 * d)]) ++ letR d (codeL ((l.getD p 0).toNat - 65)))
def keyR (d : Nat) (l : List UInt8) : List Run := keyRP d l l.length ++ [(false, 7 * d)]
theorem flat_piece (d i : Nat) (c : UInt8) : flatR (pieceR d i c) = pieceK d i c := by
  unfold pieceR pieceK
  rw [flatR_app]
  congr 1
  · split <;> simp [flatR, valR]
  · simp [flatR, valR]
theorem flat_letP (d : Nat) (l : List UInt8) : ∀ p, flatR (letRP d l p) = letP d l p
  | 0 => rfl
  | p + 1 => by rw [letRP, letP, flatR_app, flat_letP d l p, flat_piece]
theorem flat_let (d : Nat) (l : List UInt8) : flatR (letR d l) = letS d l := flat_letP d l _
theorem flat_keyP (d : Nat) (l : List UInt8) : ∀ p, flatR (keyRP d l p) = keyP d l p
  | 0 => rfl
  | p + 1 => by
    rw [keyRP, keyP, flatR_app, flat_keyP d l p, flatR_app, flat_let]
    congr 2
    split <;> simp [flatR, valR]
theorem flat_key (d : Nat) (l : List UInt8) : flatR (keyR d l) = keyedL d l := by
  unfold keyR keyedL
  rw [flatR_app, flat_keyP]
  congr 1
  simp [flatR, valR]
theorem alt_piece {d i : Nat} (c : UInt8) : altT d (decide (i = 0)) (pieceR d i c) false := by
  unfold pieceR
  by_cases h : i = 0
  · rw [if_pos h, decide_eq_true h]
    exact ⟨rfl, by dsimp only; split <;> omega, rfl⟩
  · rw [if_neg h, decide_eq_false h]
    exact ⟨rfl, Nat.le_refl _, rfl, by dsimp only; split <;> omega, rfl⟩
theorem alt_letP {d : Nat} (l : List UInt8) : ∀ p, altT d true (letRP d l p) (decide (p = 0))
  | 0 => rfl
  | p + 1 => altT_app (alt_letP l p) (alt_piece _)
theorem alt_let {d : Nat} {l : List UInt8} (h : l ≠ []) : altT d true (letR d l) false := by
  have k := alt_letP (d := d) l l.length
  rw [decide_eq_false (by simpa using h)] at k
  exact k
theorem codeL_ne : ∀ k : Fin 26, codeL k ≠ [] := by decide +kernel
theorem alt_keyP {d : Nat} {l : List UInt8} (hl : ∀ c ∈ l, 65 ≤ c.toNat ∧ c.toNat ≤ 90) : ∀ p, p ≤ l.length → altT d true (keyRP d l p) (decide (p = 0))
  | 0, _ => rfl
  | p + 1, hp => by
    have hm : l.getD p 0 ∈ l := by rw [List.getD_eq_getElem?_getD, List.getElem?_eq_getElem (by omega)]; exact List.getElem_mem _
    have hc := hl _ hm
    refine altT_app (alt_keyP hl p (by omega)) (altT_app (m := true) ?_ (alt_let (codeL_ne ⟨(l.getD p 0).toNat - 65, by omega⟩)))
    by_cases h : p = 0
    · rw [if_pos h, decide_eq_true h]; rfl
    · rw [if_neg h, decide_eq_false h]; exact ⟨rfl, by dsimp only; omega, rfl⟩
theorem alt_key {d : Nat} {l : List UInt8} (h0 : l ≠ []) (hl : ∀ c ∈ l, 65 ≤ c.toNat ∧ c.toNat ≤ 90) : altT d true (keyR d l) true := by
  have k := alt_keyP (d := d) hl l.length (Nat.le_refl _)
  rw [decide_eq_false (by simpa using h0)] at k
  exact altT_app k ⟨rfl, by dsimp only; omega, rfl⟩
def okW (l : List UInt8) : Prop := l ≠ [] ∧ ∀ c ∈ l, 65 ≤ c.toNat ∧ c.toNat ≤ 90
def allR (d : Nat) (ws : List (List UInt8)) : List Run := ws.flatMap (keyR d)
theorem alt_all {d : Nat} : ∀ {ws : List (List UInt8)}, (∀ w ∈ ws, okW w) → altT d true (allR d ws) true
  | [], _ => rfl
  | w :: ws, h => by
    have h1 := h w List.mem_cons_self
    exact altT_app (alt_key h1.1 h1.2) (alt_all fun v hv => h v (List.mem_cons_of_mem _ hv))
theorem flat_all (d : Nat) (ws : List (List UInt8)) : flatR (allR d ws) = ws.flatMap (keyedL d) := by
  induction ws with
  | nil => rfl
  | cons w ws ih =>
    have e : allR d (w :: ws) = keyR d w ++ allR d ws := by simp [allR]
    rw [e, flatR_app, ih, flat_key]; simp
def nearR (d : Nat) : List Run → List Run → Prop
  | [], [] => True
  | r :: rs, q :: qs => r.1 = q.1 ∧ r.2 < q.2 + d ∧ q.2 < r.2 + d ∧ nearR d rs qs
  | _, _ => False
theorem near_self {d : Nat} (hd : 1 ≤ d) : ∀ rs, nearR d rs rs
  | [] => True.intro
  | r :: rs => ⟨rfl, by omega, by omega, near_self hd rs⟩
theorem near_app {d : Nat} : ∀ {a b qs : List Run}, nearR d (a ++ b) qs → ∃ qa qb, qs = qa ++ qb ∧ nearR d a qa ∧ nearR d b qb
  | [], b, qs, h => ⟨[], qs, rfl, True.intro, h⟩
  | r :: a, b, [], h => by cases h
  | r :: a, b, q :: qs, h => by
    obtain ⟨qa, qb, e, h1, h2⟩ := near_app h.2.2.2
    exact ⟨q :: qa, qb, by rw [e]; rfl, ⟨h.1, h.2.1, h.2.2.1, h1⟩, h2⟩
theorem near_alt {d : Nat} : ∀ {b e : Bool} {rs qs : List Run}, altT d b rs e → nearR d rs qs → altT 1 b qs e
  | b, e, [], [], h, _ => h
  | b, e, [], _ :: _, _, h => by cases h
  | b, e, _ :: _, [], _, h => by cases h
  | b, e, r :: rs, q :: qs, h, k => ⟨k.1 ▸ h.1, by have := h.2.1; have := k.2.1; omega, near_alt h.2.2 k.2.2.2⟩
theorem near_one {d : Nat} {r : Run} {qs : List Run} (h : nearR d [r] qs) : ∃ n, qs = [(r.1, n)] ∧ r.2 < n + d ∧ n < r.2 + d := by
  match qs, h with
  | [q], h => exact ⟨q.2, by rw [h.1], h.2.1, h.2.2.1⟩
def str (l : List UInt8) : ByteArray := ⟨l.toArray⟩
theorem str_snoc (l : List UInt8) (c : UInt8) : str l ++ str [c] = str (l ++ [c]) := by
  apply ByteArray.ext
  rw [ByteArray.data_append]
  simp [str]
theorem step_on {d : Nat} {n : Nat} {s : HeS} {c : UInt8} (hd : 1 ≤ d) (hc : c = 48 ∨ c = 49) (h1 : (if c.toNat = 49 then 3 * d else d) < n + d) (h2 : n < (if c.toNat = 49 then 3 * d else d) + d) : stpR (d : Int) s (true, n) = (s.1, s.2.1, s.2.2 ++ str [c]) := by
  unfold stpR onS
  rw [if_pos rfl]
  rcases hc with rfl | rfl
  · have e : ((48 : UInt8).toNat = 49) = False := by simp
    rw [if_neg (by rw [e]; exact id)] at h1 h2
    dsimp only
    rw [if_pos (by omega)]; rfl
  · have e : (49 : UInt8).toNat = 49 := rfl
    rw [if_pos e] at h1 h2
    dsimp only
    rw [if_neg (by omega)]; rfl
theorem fold_letP {d : Nat} (hd : 1 ≤ d) {l : List UInt8} (hl : ∀ c ∈ l, c = 48 ∨ c = 49) (wds : List ByteArray) (wd : ByteArray) : ∀ (p : Nat) (qs : List Run), p ≤ l.length → nearR d (letRP d l p) qs → qs.foldl (stpR (d : Int)) (wds, wd, ⟨#[]⟩) = (wds, wd, str (l.take p))
  | 0, qs, _, h => by
    cases qs with
    | nil => rfl
    | cons q qs => cases h
  | p + 1, qs, hp, h => by
    rw [letRP] at h
    obtain ⟨qa, qb, rfl, h1, h2⟩ := near_app h
    rw [List.foldl_append, fold_letP hd hl wds wd p qa (by omega) h1]
    have hm : l.getD p 0 ∈ l := by rw [List.getD_eq_getElem?_getD, List.getElem?_eq_getElem (by omega)]; exact List.getElem_mem _
    have hc := hl _ hm
    have ht : str (l.take (p + 1)) = str (l.take p) ++ str [l.getD p 0] := by
      rw [str_snoc, List.take_succ_eq_append_getElem (by omega), List.getD_eq_getElem?_getD, List.getElem?_eq_getElem (by omega)]; rfl
    rw [ht]
    unfold pieceR at h2
    obtain ⟨qc, qd, rfl, h3, h4⟩ := near_app h2
    obtain ⟨n, rfl, k1, k2⟩ := near_one h4
    have hoff : qc.foldl (stpR (d : Int)) (wds, wd, str (l.take p)) = (wds, wd, str (l.take p)) := by
      by_cases h0 : p = 0
      · rw [if_pos h0] at h3
        cases qc with
        | nil => rfl
        | cons q qs => cases h3
      · rw [if_neg h0] at h3
        obtain ⟨m, rfl, j1, j2⟩ := near_one h3
        show offS _ (m : Int) (d : Int) = _
        unfold offS
        dsimp only at j1 j2
        rw [if_neg (by omega), if_neg (by omega)]
    rw [List.foldl_append, hoff]
    exact step_on hd hc k1 k2
theorem codeL_bits : ∀ k : Fin 26, ∀ c ∈ codeL k, c = 48 ∨ c = 49 := by decide +kernel
theorem fold_let {d : Nat} (hd : 1 ≤ d) {k : Nat} (hk : k < 26) (wds : List ByteArray) (wd : ByteArray) {qs : List Run} (h : nearR d (letR d (codeL k)) qs) : qs.foldl (stpR (d : Int)) (wds, wd, ⟨#[]⟩) = (wds, wd, codeS k) := by
  have h1 := fold_letP hd (codeL_bits ⟨k, hk⟩) wds wd _ qs (Nat.le_refl _) h
  rw [List.take_length] at h1
  exact h1
theorem lett_code : ∀ k : Nat, k < 26 → lettB (codeS k) = letQ k := by
  intro k hk
  rcases (show k = 0 ∨ k = 1 ∨ k = 2 ∨ k = 3 ∨ k = 4 ∨ k = 5 ∨ k = 6 ∨ k = 7 ∨ k = 8 ∨ k = 9 ∨ k = 10 ∨ k = 11 ∨ k = 12 ∨ k = 13 ∨ k = 14 ∨ k = 15 ∨ k = 16 ∨ k = 17 ∨ k = 18 ∨ k = 19 ∨ k = 20 ∨ k = 21 ∨ k = 22 ∨ k = 23 ∨ k = 24 ∨ k = 25 by omega) with rfl | rfl | rfl | rfl | rfl | rfl | rfl | rfl | rfl | rfl | rfl | rfl | rfl | rfl | rfl | rfl | rfl | rfl | rfl | rfl | rfl | rfl | rfl | rfl | rfl | rfl
  all_goals kernel_rfl
theorem lett_of {l : List UInt8} {p : Nat} (hp : p < l.length) (hl : ∀ c ∈ l, 65 ≤ c.toNat ∧ c.toNat ≤ 90) : lettI (str (l.take p)) (codeS ((l.getD p 0).toNat - 65)) = str (l.take (p + 1)) := by
  have hm : l.getD p 0 ∈ l := by rw [List.getD_eq_getElem?_getD, List.getElem?_eq_getElem hp]; exact List.getElem_mem _
  have hc := hl _ hm
  have hne := codeL_ne ⟨(l.getD p 0).toNat - 65, by omega⟩
  have h0 : (codeS ((l.getD p 0).toNat - 65)).toList.isEmpty = false := by
    cases he : (codeS ((l.getD p 0).toNat - 65)).toList.isEmpty with
    | false => rfl
    | true =>
      exfalso
      apply hne
      have h2 := List.isEmpty_iff.1 he
      rw [ByteArray.toList_eq] at h2
      exact h2
  unfold lettI
  rw [h0, if_neg (by simp), lett_code _ (by omega)]
  have e : letQ ((l.getD p 0).toNat - 65) = str [l.getD p 0] := by
    unfold letQ str
    congr 2
    rw [show 65 + ((l.getD p 0).toNat - 65) = (l.getD p 0).toNat by omega, UInt8.ofNat_toNat]
  rw [e, str_snoc, List.take_succ_eq_append_getElem hp, List.getD_eq_getElem?_getD, List.getElem?_eq_getElem hp]; rfl
def stW (wds : List ByteArray) (l : List UInt8) (p : Nat) : HeS := if p = 0 then (wds, ⟨#[]⟩, ⟨#[]⟩) else (wds, str (l.take (p - 1)), codeS ((l.getD (p - 1) 0).toNat - 65))
theorem fold_keyP {d : Nat} (hd : 1 ≤ d) {l : List UInt8} (hl : ∀ c ∈ l, 65 ≤ c.toNat ∧ c.toNat ≤ 90) (wds : List ByteArray) : ∀ (p : Nat) (qs : List Run), p ≤ l.length → nearR d (keyRP d l p) qs → qs.foldl (stpR (d : Int)) (wds, ⟨#[]⟩, ⟨#[]⟩) = stW wds l p
  | 0, qs, _, h => by
    cases qs with
    | nil => rfl
    | cons q qs => cases h
  | p + 1, qs, hp, h => by
    rw [keyRP] at h
    obtain ⟨qa, qb, rfl, h1, h2⟩ := near_app h
    obtain ⟨qc, qd, rfl, h3, h4⟩ := near_app h2
    rw [List.foldl_append, fold_keyP hd hl wds p qa (by omega) h1, List.foldl_append]
    have hm : l.getD p 0 ∈ l := by rw [List.getD_eq_getElem?_getD, List.getElem?_eq_getElem (by omega)]; exact List.getElem_mem _
    have hc := hl _ hm
    have hoff : qc.foldl (stpR (d : Int)) (stW wds l p) = (wds, str (l.take p), ⟨#[]⟩) := by
      by_cases h0 : p = 0
      · rw [if_pos h0] at h3
        subst h0
        cases qc with
        | nil => rfl
        | cons q qs => cases h3
      · rw [if_neg h0] at h3
        obtain ⟨m, rfl, j1, j2⟩ := near_one h3
        unfold stW
        rw [if_neg h0]
        show offS _ (m : Int) (d : Int) = _
        unfold offS
        dsimp only at j1 j2
        rw [if_neg (by omega), if_pos (by omega)]
        have k := lett_of (p := p - 1) (by omega) hl
        rw [show p - 1 + 1 = p by omega] at k
        dsimp only
        rw [k]
    rw [hoff, fold_let hd (by omega) wds _ h4]
    unfold stW
    rw [if_neg (by omega)]
    rfl
theorem fold_key {d : Nat} (hd : 1 ≤ d) {l : List UInt8} (h0 : l ≠ []) (hl : ∀ c ∈ l, 65 ≤ c.toNat ∧ c.toNat ≤ 90) (wds : List ByteArray) {qs : List Run} (h : nearR d (keyR d l) qs) : qs.foldl (stpR (d : Int)) (wds, ⟨#[]⟩, ⟨#[]⟩) = (wds ++ [str l], ⟨#[]⟩, ⟨#[]⟩) := by
  obtain ⟨qa, qb, rfl, h1, h2⟩ := near_app h
  obtain ⟨n, rfl, j1, j2⟩ := near_one h2
  have hn : 0 < l.length := by
    cases l with
    | nil => exact absurd rfl h0
    | cons a l => simp
  rw [List.foldl_append, fold_keyP hd hl wds l.length qa (Nat.le_refl _) h1]
  show offS (stW wds l l.length) (n : Int) (d : Int) = _
  unfold offS
  dsimp only at j1 j2
  rw [if_pos (by omega)]
  unfold endS stW
  rw [if_neg (by omega)]
  dsimp only
  have k := lett_of (p := l.length - 1) (by omega) hl
  rw [show l.length - 1 + 1 = l.length by omega, List.take_length] at k
  rw [k]
  unfold addW
  have he : (str l).toList.isEmpty = false := by
    rw [ByteArray.toList_eq]
    show l.isEmpty = false
    cases l with
    | nil => exact absurd rfl h0
    | cons a l => rfl
  rw [he, if_neg (by simp)]
theorem fold_all {d : Nat} (hd : 1 ≤ d) : ∀ {ws : List (List UInt8)}, (∀ w ∈ ws, okW w) → ∀ (wds : List ByteArray) {qs : List Run}, nearR d (allR d ws) qs → qs.foldl (stpR (d : Int)) (wds, ⟨#[]⟩, ⟨#[]⟩) = (wds ++ ws.map str, ⟨#[]⟩, ⟨#[]⟩)
  | [], _, wds, qs, h => by
    cases qs with
    | nil => simp
    | cons q qs => cases h
  | w :: ws, hw, wds, qs, h => by
    have h1 := hw w List.mem_cons_self
    have e : allR d (w :: ws) = keyR d w ++ allR d ws := by simp [allR]
    rw [e] at h
    obtain ⟨qa, qb, rfl, k1, k2⟩ := near_app h
    rw [List.foldl_append, fold_key hd h1.1 h1.2 wds k1, fold_all hd (fun v hv => hw v (List.mem_cons_of_mem _ hv)) _ k2]
    simp
theorem heard_near {d : Nat} (hd : 1 ≤ d) {ws : List (List UInt8)} (hw : ∀ w ∈ ws, okW w) {qs : List Run} (h : nearR d (allR d ws) qs) : heardL (flatR qs) (d : Int) = ws.map str := by
  rw [heard_flat (near_alt (alt_all hw) h), fold_all hd hw [] h]
  show addW ([] ++ ws.map str) (lettI ⟨#[]⟩ ⟨#[]⟩) = _
  have e : lettI ⟨#[]⟩ ⟨#[]⟩ = ⟨#[]⟩ := by
    unfold lettI
    rw [if_pos (by rw [ByteArray.toList_eq]; rfl)]
  rw [e, List.nil_append]
  unfold addW
  rw [if_pos (by rw [ByteArray.toList_eq]; rfl)]
theorem heard_all {d : Nat} (hd : 1 ≤ d) {ws : List (List UInt8)} (hw : ∀ w ∈ ws, okW w) : heardL (ws.flatMap (keyedL d)) (d : Int) = ws.map str := by
  rw [← flat_all]
  exact heard_near hd hw (near_self hd _)
theorem piece_len (d i : Nat) (c : UInt8) : (pieceK d i c).length = d * (pieceK 1 i c).length := by
  unfold pieceK
  split <;> split <;> simp <;> omega
theorem letP_len (d : Nat) (l : List UInt8) : ∀ p, (letP d l p).length = d * (letP 1 l p).length
  | 0 => rfl
  | p + 1 => by rw [letP, letP, List.length_append, List.length_append, letP_len d l p, piece_len, Nat.mul_add]
theorem letS_len (d : Nat) (l : List UInt8) : (letS d l).length = d * (letS 1 l).length := letP_len d l _
theorem letS_13 : ∀ k : Fin 26, (letS 1 (codeL k)).length ≤ 13 := by decide +kernel
theorem keyP_len (d : Nat) (l : List UInt8) : ∀ p, (keyP d l p).length = d * (keyP 1 l p).length
  | 0 => rfl
  | p + 1 => by
    rw [keyP, keyP, List.length_append, List.length_append, List.length_append, List.length_append, keyP_len d l p, letS_len, Nat.mul_add, Nat.mul_add]
    congr 2
    split <;> simp
    omega
theorem keyed_len (d : Nat) (l : List UInt8) : (keyedL d l).length = d * (keyedL 1 l).length := by
  unfold keyedL
  rw [List.length_append, List.length_append, keyP_len, Nat.mul_add, List.length_replicate, List.length_replicate]
  omega
theorem keyP_16 {l : List UInt8} (hl : ∀ c ∈ l, 65 ≤ c.toNat ∧ c.toNat ≤ 90) : ∀ p, p ≤ l.length → (keyP 1 l p).length ≤ 16 * p
  | 0, _ => by simp [keyP]
  | p + 1, hp => by
    have hm : l.getD p 0 ∈ l := by rw [List.getD_eq_getElem?_getD, List.getElem?_eq_getElem (by omega)]; exact List.getElem_mem _
    have hc := hl _ hm
    have h1 := keyP_16 hl p (by omega)
    have h2 := letS_13 ⟨(l.getD p 0).toNat - 65, by omega⟩
    rw [keyP, List.length_append, List.length_append]
    have h3 : (if p = 0 then ([] : List Nat) else List.replicate (3 * 1) 0).length ≤ 3 := by split <;> simp
    dsimp only at h2
    omega
end Go.Proofs.YtlflfieknibgmaaGreatDoor
namespace Go.Proofs.YtlflfieknibgmaaGreatDoor
set_option linter.all false
open Go.RowKit Go.Fl
theorem samp_zero : sampI 0 = 0 := by decide +kernel
theorem samp_one : sampI one32 = 0 := by decide +kernel
theorem letP_mem (d : Nat) (l : List UInt8) (p : Nat) : ∀ x ∈ letP d l p, x = 0 ∨ x = one32 := by
  induction p with
  | zero => intro x hx; simp [letP] at hx
  | succ p ih =>
    intro x hx
    rw [letP] at hx
    unfold pieceK at hx
    rcases List.mem_append.1 hx with h | h
    · exact ih x h
    · rcases List.mem_append.1 h with h | h
      · split at h
        · simp at h
        · exact .inl (List.eq_of_mem_replicate h)
      · exact .inr (List.eq_of_mem_replicate h)
theorem keyP_mem (d : Nat) (l : List UInt8) (p : Nat) : ∀ x ∈ keyP d l p, x = 0 ∨ x = one32 := by
  induction p with
  | zero => intro x hx; simp [keyP] at hx
  | succ p ih =>
    intro x hx
    rw [keyP] at hx
    rcases List.mem_append.1 hx with h | h
    · exact ih x h
    · rcases List.mem_append.1 h with h | h
      · split at h
        · simp at h
        · exact .inl (List.eq_of_mem_replicate h)
      · exact letP_mem d _ _ x h
theorem keyedL_samp (d : Nat) (l : List UInt8) : ∀ x ∈ keyedL d l, sampI x = 0 := by
  intro x hx
  have h : x = 0 ∨ x = one32 := by
    unfold keyedL at hx
    rcases List.mem_append.1 hx with h | h
    · exact keyP_mem d l _ x h
    · exact .inl (List.eq_of_mem_replicate h)
  rcases h with rfl | rfl
  · exact samp_zero
  · exact samp_one
end Go.Proofs.YtlflfieknibgmaaGreatDoor
namespace Go.Proofs.YtlflfieknibgmaaGreatDoor
set_option linter.all false
open Go.RowKit Go.Maps Go.Fl
theorem firstZ : ∀ {zs : List Int}, (∀ z ∈ zs, z = 0) → firstI zs = 0
  | [], _ => rfl
  | z :: zs, h => by
    show (if z = 0 then firstI zs else z) = 0
    rw [if_pos (h z List.mem_cons_self)]
    exact firstZ fun y hy => h y (List.mem_cons_of_mem _ hy)
theorem keyedL_mem (d : Nat) (l : List UInt8) : ∀ x ∈ keyedL d l, x = 0 ∨ x = one32 := by
  intro x hx
  unfold keyedL at hx
  rcases List.mem_append.1 hx with h | h
  · exact keyP_mem d l _ x h
  · exact .inl (List.eq_of_mem_replicate h)
end Go.Proofs.YtlflfieknibgmaaGreatDoor
