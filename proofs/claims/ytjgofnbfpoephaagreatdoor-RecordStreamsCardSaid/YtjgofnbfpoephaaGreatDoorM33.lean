/- Contracts: what is read of a line of a recording. -/
import Derived.Test.YtjgofnbfpoephaaGreatDoorM29
import Derived.Test.YtjgofnbfpoephaaGreatDoorM32
namespace Go.Proofs.YtjgofnbfpoephaaGreatDoor
set_option linter.all false
open Go.RowKit Go.Fl
set_option linter.unusedVariables false
set_option linter.unusedSimpArgs false
variable {lb : Nat} {L : List ByteArray}

/-- start, step, samples, marks as they have been read -/
abbrev PaS := Int × Int × List Nat × List (Int × ByteArray)
def paV (S : PaS) (vs vm : Value) : List Value := [.int .i64 S.1, .int .i64 S.2.1, vs, vm]
/-- the recording in block R as read so far, the words that are left in block g -/
def PaI (w0 : World) (lb : Nat) (L : List ByteArray) (R g : Nat) (S : PaS) (ws : List ByteArray) (W : World) : Prop :=
  w0.heap.size ≤ R ∧ w0.heap.size ≤ g ∧ ∃ vs vm, Row W R 98 (paV S vs vm) ∧ W.ownsRow w0.heap.size 37 1 vs S.2.2.1.length (flts S.2.2.1) ∧ W.ownsRow w0.heap.size 158 2 vm S.2.2.2.length (markC S.2.2.2) ∧ WdI lb L g ws W ∧ Below w0.heap.size w0 W
theorem own_ne {W : World} {g : Nat} {t e : TypeId} {us : List Value} {B s n : Nat} {v : Value} {xs : List Value} (h : Row W g t us) (hr : W.ownsRow B e s v n xs) (hte : t ≠ e) : v.ownBlock = none ∨ v.ownBlock ≠ some g := by
  rcases hr.2 with ⟨h1, _⟩ | ⟨k, cap, cur, h1, _, h3, _⟩
  · exact .inl (by rw [h1]; rfl)
  · refine .inr ?_
    rw [h1]
    intro e2
    have e3 : k = g := by simpa [Value.ownBlock] using e2
    subst e3
    rw [show W.heap[k]? = _ from h] at h3
    cases h3; exact hte rfl
theorem PaI.old {w0 : World} {R g : Nat} {S : PaS} {ws : List ByteArray} {W W' : World} (h : PaI w0 lb L R g S ws W) (hb : Below W.heap.size W W') : PaI w0 lb L R g S ws W' := by
  obtain ⟨h1, h2, vs, vm, h3, h4, h5, h6, h7⟩ := h
  exact ⟨h1, h2, vs, vm, h3.old hb, owns_below h4 hb, owns_below h5 hb, h6.old hb, h7.trans (hb.mono h7.size)⟩
theorem PaI.next {w0 : World} {R g : Nat} {S : PaS} {ws ws' : List ByteArray} {W W' : World} (h : PaI w0 lb L R g S ws W) (hg : W.grownBy W' (some g)) (hw : WdI lb L g ws' W') : PaI w0 lb L R g S ws' W' := by
  obtain ⟨h1, h2, vs, vm, h3, h4, h5, ⟨_, rb, off, c, all, h6, -⟩, h7⟩ := h
  exact ⟨h1, h2, vs, vm, h3.grown hg (fun e => h3.ne h6 (by decide) (Option.some.inj e)), h4.kept hg (own_ne h6 h4 (by decide)), h5.kept hg (own_ne h6 h5 (by decide)), hw, h7.grown hg h7.size (fun k hk => by cases hk; exact h2)⟩
theorem PaI.words {w0 : World} {R g : Nat} {S : PaS} {ws : List ByteArray} {W : World} (h : PaI w0 lb L R g S ws W) : WdI lb L g ws W := by
  obtain ⟨-, -, _, _, -, -, -, h6, -⟩ := h; exact h6
theorem PaI.below {w0 : World} {R g : Nat} {S : PaS} {ws : List ByteArray} {W : World} (h : PaI w0 lb L R g S ws W) : Below w0.heap.size w0 W := by
  obtain ⟨-, -, _, _, -, -, -, -, h7⟩ := h; exact h7
/-- a cell of the recording is set -/
theorem PaI.set {w0 : World} {R g : Nat} {S S' : PaS} {ws : List ByteArray} {W : World} {vs vm vs' vm' : Value} {i : Nat} {u : Value} (h1 : w0.heap.size ≤ R) (h2 : w0.heap.size ≤ g) (h3 : Row W R 98 (paV S vs vm)) (h4 : W.ownsRow w0.heap.size 37 1 vs' S'.2.2.1.length (flts S'.2.2.1)) (h5 : W.ownsRow w0.heap.size 158 2 vm' S'.2.2.2.length (markC S'.2.2.2)) (h6 : WdI lb L g ws W) (h7 : Below w0.heap.size w0 W)
    (hs : (paV S vs vm).set i u = paV S' vs' vm') : PaI w0 lb L R g S' ws (W.setCell ⟨R, i, none⟩ u) := by
  have hgr : W.grownBy (W.setCell ⟨R, i, none⟩ u) (some R) := ⟨rfl, rfl, rfl, by simp, fun k _ hk => heap_setCell_other _ _ _ _ (fun e => hk (by rw [e]))⟩
  exact ⟨h1, h2, vs', vm', by rw [← hs]; exact h3.set i u, h4.kept hgr (own_ne h3 h4 (by decide)), h5.kept hgr (own_ne h3 h5 (by decide)), h6.grown hgr (fun k t us hk ht e => hk.ne h3 (by rcases ht with rfl | rfl <;> decide) (Option.some.inj e)), h7.setCell (by simpa using h1) _⟩
theorem PaI.takes {w0 : World} {R g : Nat} {S : PaS} {ws : List ByteArray} {W : World} (h : PaI w0 lb L R g S ws W) (hm : ws.length ≤ 1000000) : Calls Tryz.prog 188 #[.pointer (some ⟨g, 0, none⟩)] W fun e w' => e = .returned (.string (headW ws)) ∧ PaI w0 lb L R g S ws.tail w' :=
  (next_any g ws W h.words hm).mono fun e w' ⟨h1, h2, h3⟩ => ⟨h1, h.next h3 h2⟩

def headS (S : PaS) (ws : List ByteArray) : PaS := (countV (headW ws).data.toList, countV (headW ws.tail).data.toList, S.2.2.1, S.2.2.2)
def headOk (ws : List ByteArray) : Bool := countOk (headW ws).data.toList && countOk (headW ws.tail).data.toList
set_option maxRecDepth 100000 in
set_option maxHeartbeats 1000000 in
theorem readHead_any (w0 : World) (R g : Nat) (S : PaS) (ws : List ByteArray) (w : World) (h : PaI w0 lb L R g S ws w) (hm : ws.length ≤ 1000000) :
    Calls Tryz.prog 201 #[.pointer (some ⟨R, 0, none⟩), .func (.func 188) #[.pointer (some ⟨g, 0, none⟩)] #[]] w fun e w' => e = .returned (.bool (headOk ws)) ∧ PaI w0 lb L R g (headS S ws) ws.tail.tail w' := by
  have H0 := Lib.hid h
  clear h
  go_enter Tryz.func201, Tryz.ntmps201
  go_wp2_with fail
  refine (H0.out.takes hm).mono ?_
  rintro e w1 ⟨rfl, h1⟩
  have H1 := Lib.hid h1
  clear h1
  go_wp2_with fail
  refine (count_any _ _).mono ?_
  rintro e w2 ⟨rfl, hb2⟩
  have H2 := Lib.hid (H1.out.old hb2)
  clear hb2
  unfold countE
  go_wp2_with fail
  refine (H2.out.takes (by simp; omega)).mono ?_
  rintro e w3 ⟨rfl, h3⟩
  have H3 := Lib.hid h3
  clear h3
  go_wp2_with fail
  refine (count_any _ _).mono ?_
  rintro e w4 ⟨rfl, hb4⟩
  obtain ⟨k1, k2, vs, vm, k3, k4, k5, k6, k7⟩ := H3.out.old hb4
  have c0 := k3.cell 0; have c1 := k3.cell 1
  have f0 := k3.free 0; have f1 := k3.free 1
  have K : Hid (PaI w0 lb L R g (headS S ws) ws.tail.tail ((w4.setCell ⟨R, 0, none⟩ (.int .i64 (countV (headW ws).data.toList))).setCell ⟨R, 1, none⟩ (.int .i64 (countV (headW ws.tail).data.toList)))) := by
    obtain ⟨j1, j2, vs2, vm2, j3, j4, j5, j6, j7⟩ := PaI.set (S' := (countV (headW ws).data.toList, S.2.1, S.2.2.1, S.2.2.2)) (i := 0) (u := .int .i64 (countV (headW ws).data.toList)) k1 k2 k3 k4 k5 k6 k7 rfl
    exact PaI.set j1 j2 j3 j4 j5 j6 j7 rfl
  simp only [paV, List.getElem?_cons_succ, List.getElem?_cons_zero] at c0 c1
  clear hb4 k1 k2 k3 k4 k5 k6 k7
  unfold countE
  go_wp2
  all_goals
    go_ret
    exact ⟨by simp [headOk, *], K.out⟩

theorem own_own {W : World} {e e' : TypeId} {B s n B' s' n' : Nat} {v v' : Value} {xs xs' : List Value} (h : W.ownsRow B e s v n xs) (h' : W.ownsRow B' e' s' v' n' xs') (he : e ≠ e') : v.ownBlock = none ∨ v.ownBlock ≠ v'.ownBlock := by
  rcases h.2 with ⟨h1, _⟩ | ⟨k, cap, cur, h1, _, h3, _⟩
  · exact .inl (by rw [h1]; rfl)
  · refine .inr ?_
    rcases h'.2 with ⟨h1', _⟩ | ⟨k', cap', cur', h1', _, h3', _⟩
    · rw [h1, h1']; intro e; cases e
    · rw [h1, h1']
      intro e2
      have e3 : k = k' := by simpa [Value.ownBlock] using e2
      subst e3
      rw [h3] at h3'
      cases h3'; exact he rfl
theorem markC_snoc (l : List (Int × ByteArray)) (n : Int) (nm : ByteArray) : markC (l ++ [(n, nm)]) = markC l ++ [.int .i64 n, .string nm] := by rw [markC_app]; rfl
/-- what stays when a row is appended to -/
theorem grew_row {W W1 : World} {o : Obj} {v : Value} {e t : TypeId} {B s n g : Nat} {xs us : List Value} (h : Row W g t us) (hv : W.ownsRow B e s v n xs) (hg : (W.alloc o).grownBy W1 v.ownBlock) (ht : t ≠ e) : Row W1 g t us := by
  refine (h.alloc o).grown hg ?_
  rcases own_ne h hv ht with h1 | h1
  · rw [h1]; simp
  · exact fun e => h1 e.symm
theorem grew_own {W W1 : World} {o : Obj} {v v' : Value} {e e' : TypeId} {B s n B' s' n' : Nat} {xs xs' : List Value} (h : W.ownsRow B' e' s' v' n' xs') (hv : W.ownsRow B e s v n xs) (hg : (W.alloc o).grownBy W1 v.ownBlock) (ht : e' ≠ e) : W1.ownsRow B' e' s' v' n' xs' :=
  (h.alloc o).kept hg (own_own h hv ht)
theorem grew_wd {W W1 : World} {o : Obj} {v : Value} {e : TypeId} {B s n g : Nat} {xs : List Value} {ws : List ByteArray} (h : WdI lb L g ws W) (hv : W.ownsRow B e s v n xs) (hg : (W.alloc o).grownBy W1 v.ownBlock) (h1 : 261 ≠ e) (h2 : 9 ≠ e) : WdI lb L g ws W1 := by
  obtain ⟨k0, rb, off, c, all, k1, k2, k3⟩ := h
  exact ⟨grew_row k0 hv hg h2, rb, off, c, all, grew_row k1 hv hg h1, grew_row k2 hv hg h2, k3⟩
def markS (S : PaS) (ws : List ByteArray) : PaS := (S.1, S.2.1, S.2.2.1, S.2.2.2 ++ [(countV (headW ws).data.toList, headW ws.tail)])
def markOk (ws : List ByteArray) : Bool := countOk (headW ws).data.toList && !(headW ws.tail).toList.isEmpty
set_option maxRecDepth 100000 in
set_option maxHeartbeats 1000000 in
theorem readMark_any (w0 : World) (R g : Nat) (S : PaS) (ws : List ByteArray) (w : World) (h : PaI w0 lb L R g S ws w) (hm : ws.length ≤ 1000000) (hmk : S.2.2.2.length ≤ 1000000) :
    Calls Tryz.prog 203 #[.pointer (some ⟨R, 0, none⟩), .func (.func 188) #[.pointer (some ⟨g, 0, none⟩)] #[]] w fun e w' => e = .returned (.bool (markOk ws)) ∧ PaI w0 lb L R g (markS S ws) ws.tail.tail w' := by
  have H0 := Lib.hid h
  clear h
  go_enter Tryz.func203, Tryz.ntmps203
  go_wp2_with fail
  refine (H0.out.takes hm).mono ?_
  rintro e w1 ⟨rfl, h1⟩
  have H1 := Lib.hid h1
  clear h1
  go_wp2_with fail
  refine (count_any _ _).mono ?_
  rintro e w2 ⟨rfl, hb2⟩
  have H2 := Lib.hid (H1.out.old hb2)
  clear hb2
  unfold countE
  go_wp2_with fail
  refine (H2.out.takes (by simp; omega)).mono ?_
  rintro e w3 ⟨rfl, h3⟩
  obtain ⟨k1, k2, vs, vm, k3, k4, k5, k6, k7⟩ := h3
  have c3 := k3.cell 3
  simp only [paV, List.getElem?_cons_succ, List.getElem?_cons_zero] at c3
  obtain ⟨n, hn⟩ : ∃ n, n = countV (headW ws).data.toList := ⟨_, rfl⟩
  obtain ⟨nm, hnm⟩ : ∃ nm, nm = headW ws.tail := ⟨_, rfl⟩
  have Hn := Lib.hid hn; have Hnm := Lib.hid hnm
  rw [← hn, ← hnm]
  clear hn hnm
  have hsz := k7.size
  have K3 := Lib.hid k3; have K4 := Lib.hid k4; have K5 := Lib.hid k5; have K6 := Lib.hid k6; have K7 := Lib.hid k7
  clear k3 k4 k5 k6 k7
  obtain ⟨im, hmi, him0, him1, him2⟩ := info_parts info158
  have him3 : (Value.agg #[.int .i64 0, .string ⟨#[]⟩]).cells.size = 2 := rfl
  go_wp2_with (at_builtin; refine wpList_append_own_at _ rfl _ _ 96 rfl w0.heap.size 158 im (.agg #[.int .i64 0, .string ⟨#[]⟩]) 2 24 Tryz.underlying96 hmi him0 him1 him2 rfl (by decide) _ _ _ rfl (K5.out.alloc _) ⟨w3.heap.size, 0, none⟩ 1 1 [.int .i64 n, .string nm] rfl rfl (news2 _ _ _ _ _ ?c1) ?c2 ?c3 ?c4 ?c5 ?_)
  case c1 => rfl
  case c2 => simp [Value.oneCell']
  case c3 => unfold maxLen; omega
  case c4 => omega
  case c5 => simp; omega
  all_goals
    intro v' w4 ho4 hg4 _ _
    rw [← markC_snoc] at ho4
    obtain ⟨g5, c5, rfl, -, -⟩ := ownsRow.addr ho4 (by omega)
    have k3 := grew_row K3.out K5.out hg4 (by decide)
    have k4 := grew_own K4.out K5.out hg4 (by decide)
    have k6 := grew_wd K6.out K5.out hg4 (by decide) (by decide)
    have k7 := Below.app K7.out hsz K5.out hg4
    have d3 := k3.cell 3
    have f3 := k3.free 3
    have KK : Hid (PaI w0 lb L R g (markS S ws) ws.tail.tail (w4.setCell ⟨R, 3, none⟩ (.slice (some ⟨g5, 0, none⟩) (S.2.2.2.length + 1) c5))) := by
      refine PaI.set (S' := markS S ws) (i := 3) k1 k2 k3 k4 ?_ k6 k7 rfl
      unfold markS; rw [← Hn.out, ← Hnm.out]
      simpa using ho4
    simp only [paV, List.getElem?_cons_succ, List.getElem?_cons_zero] at d3
    clear k3 k4 k6 k7 ho4 hg4 K3 K4 K5 K6 K7
    go_wp2
    all_goals
      go_ret
      exact ⟨by simp [markOk, ← Hnm.out, *], KK.out⟩

def sampS (S : PaS) (ws : List ByteArray) : PaS := (S.1, S.2.1, S.2.2.1 ++ [fb (intV (headW ws).data.toList)], S.2.2.2)
def sampOk (ws : List ByteArray) : Bool := intOk (headW ws).data.toList
theorem flts_snoc1 (xs : List Nat) (x : Nat) : flts (xs ++ [x]) = flts xs ++ [.float .f32 x] := by simp [flts]
theorem samp_done {w0 : World} {R g : Nat} {S : PaS} {ws ws' : List ByteArray} {W W1 : World} {vs vm u : Value} {o : Obj} (h1 : w0.heap.size ≤ R) (h2 : w0.heap.size ≤ g) (h3 : Row W R 98 (paV S vs vm)) (h4 : W.ownsRow w0.heap.size 37 1 vs S.2.2.1.length (flts S.2.2.1)) (h5 : W.ownsRow w0.heap.size 158 2 vm S.2.2.2.length (markC S.2.2.2)) (h6 : WdI lb L g ws' W) (h7 : Below w0.heap.size w0 W) (hsz : w0.heap.size ≤ W.heap.size)
    (hg : (W.drew.alloc o).grownBy W1 vs.ownBlock) (ho : W1.ownsRow w0.heap.size 37 1 u (S.2.2.1.length + 1) (flts S.2.2.1 ++ [.float .f32 (fb (intV (headW ws).data.toList))])) : PaI w0 lb L R g (sampS S ws) ws' (W1.setCell ⟨R, 2, none⟩ u) := by
  have h4' : W.drew.ownsRow w0.heap.size 37 1 vs S.2.2.1.length (flts S.2.2.1) := h4
  have k6 : WdI lb L g ws' W.drew := h6
  refine PaI.set (S' := sampS S ws) (i := 2) h1 h2 (grew_row h3.drew h4' hg (by decide)) ?_ (grew_own (W := W.drew) h5 h4' hg (by decide)) (grew_wd k6 h4' hg (by decide) (by decide)) (Below.app h7.drew hsz h4' hg) rfl
  unfold sampS; rw [flts_snoc1]; simpa using ho
theorem Row.new_drew (w : World) (t : TypeId) (vs : List Value) : Row (w.drew.alloc (.cells vs.toArray t)) w.heap.size t vs := Row.new w.drew t vs
set_option maxRecDepth 100000 in
set_option maxHeartbeats 2000000 in
theorem readSample_any (w0 : World) (R g : Nat) (S : PaS) (ws : List ByteArray) (w : World) (h : PaI w0 lb L R g S ws w) (hm : ws.length ≤ 1000000) (hsm : S.2.2.1.length ≤ 1000000) (hn : (intV (headW ws).data.toList).natAbs < 2 ^ 20) :
    Calls Tryz.prog 205 #[.pointer (some ⟨R, 0, none⟩), .func (.func 188) #[.pointer (some ⟨g, 0, none⟩)] #[]] w fun e w' => e = .returned (.bool (sampOk ws)) ∧ PaI w0 lb L R g (sampS S ws) ws.tail w' := by
  have H0 := Lib.hid h
  have HN0 := Lib.hid hn
  clear h hn
  go_enter Tryz.func205, Tryz.ntmps205
  go_wp2_with fail
  refine (H0.out.takes hm).mono ?_
  rintro e w1 ⟨rfl, h1⟩
  have H1 := Lib.hid h1
  clear h1
  go_wp2_with fail
  refine (integer_any _ _).mono ?_
  rintro e w3 ⟨rfl, hb2⟩
  obtain ⟨k1, k2, vs, vm, k3, k4, k5, k6, k7⟩ := H1.out.old hb2
  have c2 := k3.cell 2
  have f2 := k3.free 2
  simp only [paV, List.getElem?_cons_succ, List.getElem?_cons_zero] at c2
  obtain ⟨n, hn⟩ : ∃ n, n = intV (headW ws).data.toList := ⟨_, rfl⟩
  obtain ⟨ok, hok⟩ : ∃ ok, ok = intOk (headW ws).data.toList := ⟨_, rfl⟩
  have Hn := Lib.hid hn; have Hok := Lib.hid hok
  have HN : Hid (n.natAbs < 2 ^ 20) := by unfold Hid; rw [hn]; exact HN0.out
  unfold intE
  rw [← hn, ← hok]
  clear hn hok hb2
  have hsz := k7.size
  have nn2 := World.new_ne w3 ⟨R, 2, none⟩ c2
  have a2 : ∀ o, (w3.alloc o).cell? ⟨R, 2, none⟩ = some vs := fun o => keepC c2 ((Below.refl _ _).alloc (Nat.le_refl _) o)
  have K3 := Lib.hid k3; have K4 := Lib.hid k4; have K5 := Lib.hid k5; have K6 := Lib.hid k6; have K7 := Lib.hid k7
  clear k3 k4 k5 k6 k7
  go_upto_region 2 with fail
  go_region_law (first | (refine step_app rfl (.tmp 17) (.tmp 20) 38 rfl w0.heap.size 37 (.float .f32 0) 1 4 Tryz.underlying38 info37 rfl (by decide) vs S.2.2.1.length (flts S.2.2.1) rfl (K4.out.alloc _) w3.heap.size 1 1 [.float .f32 (fb n)] rfl 37 (Row.new_drew w3 37 [.float .f32 (fb n)]) rfl (by simp [Value.oneCell']) (by unfold maxLen; omega) (by omega) (by simp; omega) ?_; intro v' w4 ho4 hg4; obtain ⟨g5, c5, rfl, -, -⟩ := ownsRow.addr ho4 (by omega); have k3 := grew_row K3.out.drew (show w3.drew.ownsRow _ _ _ _ _ _ from K4.out) hg4 (by decide); have d2 : w4.cell? ⟨R, 2, none⟩ = some vs := (by rw [k3.cell]; rfl); have e2 := k3.free 2; have K : Hid (PaI w0 lb L R g (sampS S ws) ws.tail (w4.setCell ⟨R, 2, none⟩ (.slice (some ⟨g5, 0, none⟩) (S.2.2.1.length + 1) c5))) := samp_done k1 k2 K3.out K4.out K5.out K6.out K7.out hsz hg4 (by rw [← Hn.out]; exact ho4); clear k3 ho4 hg4) | (go_simp; go_at_call 104; refine (sampleOf_any n _ HN.out).mono ?_; rintro e w9 ⟨rfl, rfl⟩; go_simp))
  all_goals
    clear d2 e2 nn2 a2 c2 f2 K3 K4 K5 K6 K7
    go_wp2
    go_ret
    exact ⟨by rw [Hok.out]; rfl, K.out⟩
end Go.Proofs.YtjgofnbfpoephaaGreatDoor
