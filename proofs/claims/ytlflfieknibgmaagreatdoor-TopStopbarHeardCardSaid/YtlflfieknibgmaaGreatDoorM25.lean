import Derived.Test.YtlflfieknibgmaaGreatDoorM16
import Derived.Test.YtlflfieknibgmaaGreatDoorM23
import Derived.WalkLawsBesides
import Derived.Deep.RegionLaw
import Derived.Deep.LoopGhost
import Derived.IntWalk
namespace Go.Proofs.YtlflfieknibgmaaGreatDoor
set_option linter.all false
open Go.RowKit Go.Fl
theorem owned_slice {w : World} {B : Nat} {e : TypeId} {s : Nat} {v : Value} {n : Nat} {vs : List Value} (h : w.ownsRow B e s v n vs) : ∃ A c, v = .slice A n c ∧ Rd w A vs := by
  rcases h.2 with ⟨h1, h2⟩ | ⟨g, cap, cur, h1, h2, h3, h4, h5, h6, h7⟩
  · subst h1; subst h2
    refine ⟨none, 0, rfl, ?_⟩
    have : vs = [] := List.eq_nil_of_length_eq_zero (by rw [h.1, Nat.zero_mul])
    subst this
    intro j v hv; cases hv
  · refine ⟨_, _, h1, ?_⟩
    intro j u hu
    have hj : j < n * s := by rw [← h.1]; exact (List.getElem?_eq_some_iff.1 hu).1
    refine ⟨g, 0, rfl, ?_⟩
    rw [Nat.zero_add, cell_of_row w g j cur e (0, 0) h3, ← Array.getElem?_toList]
    rw [← h7, List.getElem?_take, if_pos hj] at hu
    exact hu
theorem step_app {P : Program} {w : World} {ops : Array Oper} {o : Oper} {a : Act} {K : Act → World → Prop} {Q : Exit → Act → World → Prop} {E : Prop} (hgd : o.guard = none) (s x : Operand) (t : TypeId)
    (ho : o.op = .call { callee := .builtin .append, args := #[s, x], argTypes := #[t, t] })
    (base : Nat) (e : TypeId) (z : Value) (size bytes : Nat) (ht : P.underlying t = some (.slice e)) (hinfo : (P.info? e).map (fun i => (i.zero, i.size, i.bytes)) = some (some z, size, bytes)) (hzs : z.cells.size = size) (hsz : 0 < size)
    (v : Value) (n : Nat) (xs : List Value) (hs : a.eval s = v) (hown : w.ownsRow base e size v n xs)
    (g m c : Nat) (news : List Value) (hx : a.eval x = .slice (some ⟨g, 0, none⟩) m c) (u : TypeId) (hr : Row w g u news) (hl : news.length = m * size) (h1 : ∀ u ∈ news, u.oneCell' = true)
    (h63 : n + m ≤ maxLen) (hbytes : (n + m) * bytes ≤ 140737488355328) (hbase : base ≤ w.heap.size)
    (h : ∀ v' w', w'.ownsRow base e size v' (n + m) (xs ++ news) → w.grownBy w' v.ownBlock → K (a.put o.dst v') w') :
    if Region.wanted o (yielded ops a.tmps) = true then Oper.wp P o a w K Q else E := by
  have hw : Region.wanted o (yielded ops a.tmps) = true := by simp [Region.wanted, hgd]
  rw [if_pos hw]
  obtain ⟨i, hi, hz0, hz1, hz2⟩ := info_parts hinfo
  exact wp_append_own w s x t ho base e i z size bytes ht hi hz0 hz1 hz2 hzs hsz v n xs hs hown ⟨g, 0, none⟩ m c news hx hl
    (fun j u hu => by
      obtain ⟨b, off, hh, hcell⟩ := Rd.row hr j u hu
      cases hh
      by_cases hj : j = 0
      · subst hj; simpa [Addr.add] using hcell
      · simpa [Addr.add, hj] using hcell) h1 h63 hbytes hbase fun v' w' h2 h3 _ => h v' w' h2 h3
end Go.Proofs.YtlflfieknibgmaaGreatDoor
namespace Go.Proofs.YtlflfieknibgmaaGreatDoor
set_option linter.all false
open Go.RowKit Go.Maps Go.Fl
def heB (b : Nat) (v : Value) (wd cd : ByteArray) : List Value := [.map (some b), v, .string wd, .string cd]
def lettB (cd : ByteArray) : ByteArray := if has (LD 26) (.string cd.data.toList) then (match (LD 26).atKey (.string cd.data.toList) (.lit (.string [])) with | .lit (.string l) => ⟨l.toArray⟩ | _ => ⟨#[]⟩) else ⟨#[63]⟩
def HeI (w0 : World) (g b : Nat) (wds : List ByteArray) (wd cd : ByteArray) (W : World) : Prop :=
  w0.heap.size ≤ g ∧ ∃ v, Row W g 136 (heB b v wd cd) ∧ W.ownsMap Tryz.prog 9 (plainElem Tryz.prog 9) b 26 (LD 26) ∧ W.ownsRow w0.heap.size 9 1 v wds.length (strs wds) ∧ Below w0.heap.size w0 W
theorem not_row {W : World} {g : Nat} {vs : List Value} {B n : Nat} {v : Value} {xs : List Value} (h : Row W g 136 vs) (hr : W.ownsRow B 9 1 v n xs) : v.ownBlock = none ∨ v.ownBlock ≠ some g := by
  rcases hr.2 with ⟨h1, _⟩ | ⟨k, cap, cur, h1, _, h3, _⟩
  · exact .inl (by rw [h1]; rfl)
  · refine .inr ?_
    rw [h1]
    intro e
    have e2 : k = g := by simpa [Value.ownBlock] using e
    subst e2
    rw [show W.heap[k]? = _ from h] at h3
    cases h3
theorem not_map {H : Type} {W : World} {g b n : Nat} {vs : List Value} {R : Value → Option (DataW H × List MemPlace)} {D : DataW H} {k t : TypeId} (h : Row W g t vs) (hm : W.ownsMap Tryz.prog k R b n D) : b ≠ g := by
  intro e; subst e
  obtain ⟨es, clock, h1, _⟩ := hm
  rw [show W.heap[b]? = _ from h] at h1
  cases h1
theorem HeI.set {w0 W : World} {g b : Nat} {wds : List ByteArray} {wd cd wd' cd' : ByteArray} {v : Value} {i : Nat} {u : Value} (hg : w0.heap.size ≤ g) (h1 : Row W g 136 (heB b v wd cd)) (h2 : W.ownsMap Tryz.prog 9 (plainElem Tryz.prog 9) b 26 (LD 26)) (h3 : W.ownsRow w0.heap.size 9 1 v wds.length (strs wds)) (h4 : Below w0.heap.size w0 W)
    (hs : (heB b v wd cd).set i u = heB b v wd' cd') : HeI w0 g b wds wd' cd' (W.setCell ⟨g, i, none⟩ u) := by
  have hgr : W.grownBy (W.setCell ⟨g, i, none⟩ u) (some g) := ⟨rfl, rfl, rfl, by simp, fun k _ hk => heap_setCell_other _ _ _ _ (fun e => hk (by rw [e]))⟩
  refine ⟨hg, v, by rw [← hs]; exact h1.set i u, h2.kept hgr (fun e => not_map h1 h2 (Option.some.inj e)), h3.kept hgr (not_row h1 h3), h4.setCell (by simpa using hg) _⟩
set_option maxRecDepth 100000 in
set_option maxHeartbeats 400000 in
theorem on_any (w0 : World) (g b : Nat) (wds : List ByteArray) (wd cd : ByteArray) (n d : Int) (w : World) (hI : HeI w0 g b wds wd cd w) (hn : 0 ≤ n ∧ n ≤ 100000) (hd : 0 ≤ d ∧ d ≤ 100) (hc : cd.size ≤ 100000) :
    Calls Tryz.prog 57 #[.pointer (some ⟨g, 0, none⟩), .int .i64 n, .int .i64 d] w fun e w' => e = .returned (.tuple #[]) ∧ HeI w0 g b wds wd (cd ++ if n < 2 * d then ⟨#[48]⟩ else ⟨#[49]⟩) w' := by
  obtain ⟨hg, v, h1, h2, h3, h4⟩ := hI
  have c3 : w.cell? ⟨g, 3, none⟩ = some (.string cd) := by rw [h1.cell]; rfl
  have f3 := h1.free 3
  have hR : ∀ u, Hid (HeI w0 g b wds wd u (w.setCell ⟨g, 3, none⟩ (.string u))) := fun u => HeI.set hg h1 h2 h3 h4 rfl
  have HR := Lib.hid hR
  clear hR h1 h2 h3 h4
  by_cases h : n < 2 * d
  · go_enter Tryz.func57, Tryz.ntmps57
    go_wp2
    go_end0
    exact ⟨rfl, (HR.out _).out⟩
  · go_enter Tryz.func57, Tryz.ntmps57
    go_wp2
    go_end0
    exact ⟨rfl, (HR.out _).out⟩
def shortD : DataW Unit → Bool
  | .map es => es.all fun p => match p.2 with | .lit (.string l) => decide (l.length ≤ 1) | _ => false
  | _ => false
theorem LD_short : shortD (LD 26) = true := by kernel_rfl
theorem atKey_short {D : DataW Unit} (h : shortD D = true) {kl : Lit} {s : List UInt8} (hs : D.atKey kl (.lit (.string [])) = .lit (.string s)) : s.length ≤ 1 := by
  cases D with
  | map es =>
    unfold DataW.atKey at hs
    simp only at hs
    split at hs
    · rename_i p hp
      have hm := List.mem_of_find?_eq_some hp
      have := List.all_eq_true.1 h p hm
      rw [hs] at this
      simpa using this
    · cases hs; exact Nat.zero_le _
  | _ => cases h
theorem look_any {b : Nat} {W : World} (h : W.ownsMap Tryz.prog 9 (plainElem Tryz.prog 9) b 26 (LD 26)) (cd : ByteArray) (hc : cd.size ≤ 100000) :
    ∃ s ok, (Instr.lookup 133 (.map (some b)) (.string cd) true).run Tryz.prog W = .ok (.tuple #[.string s, .bool ok]) W ∧ (lettB cd = if ok then s else ⟨#[63]⟩) ∧ s.size ≤ 1 ∧ ok = has (LD 26) (.string cd.data.toList) ∧ s = (match (LD 26).atKey (.string cd.data.toList) (.lit (.string [])) with | .lit (.string l) => ⟨l.toArray⟩ | _ => ⟨#[]⟩) := by
  have hkey := WideMaps.keyOf_string_mk (P := Tryz.prog) Tryz.underlying9 (s := cd) (by unfold maxLen; omega)
  have hz : (zeroValue 9).run Tryz.prog W = .ok (.string ⟨#[]⟩) W := by kernel_rfl
  obtain ⟨v, ps, hrun, hv⟩ := h.look_ok strKey Tryz.underlying133 hz (plainElem_string (H := Unit) (P := Tryz.prog) Tryz.underlying9 (s := ⟨#[]⟩) (by show 0 ≤ maxLen; exact Nat.zero_le _)) hkey
  obtain ⟨s, rfl, hs, _⟩ := plainElem_string_inv Tryz.underlying9 hv
  have hs3 := atKey_short LD_short (congrArg Prod.fst hs).symm.symm
  refine ⟨s, _, hrun, ?_, by show s.data.size ≤ 1; rw [← Array.length_toList]; exact hs3, rfl, ?_⟩
  · unfold lettB
    have hs2 : (LD 26).atKey (.string cd.data.toList) (.lit (.string [])) = .lit (.string s.data.toList) := (congrArg Prod.fst hs)
    rw [hs2]
  · have hs2 : (LD 26).atKey (.string cd.data.toList) (.lit (.string [])) = .lit (.string s.data.toList) := (congrArg Prod.fst hs)
    rw [hs2]
def lettI (wd cd : ByteArray) : ByteArray := if cd.toList.isEmpty then wd else wd ++ lettB cd
set_option maxRecDepth 100000 in
set_option maxHeartbeats 400000 in
theorem endLetter_any (w0 : World) (g b : Nat) (wds : List ByteArray) (wd cd : ByteArray) (w : World) (hI : HeI w0 g b wds wd cd w) (hc : cd.size ≤ 100000) (hw : wd.size ≤ 100000) :
    Calls Tryz.prog 116 #[.pointer (some ⟨g, 0, none⟩)] w fun e w' => e = .returned (.tuple #[]) ∧ HeI w0 g b wds (lettI wd cd) ⟨#[]⟩ w' := by
  obtain ⟨hg, v, h1, h2, h3, h4⟩ := hI
  have c0 : w.cell? ⟨g, 0, none⟩ = some (.map (some b)) := by rw [h1.cell]; rfl
  have c2 : w.cell? ⟨g, 2, none⟩ = some (.string wd) := by rw [h1.cell]; rfl
  have c3 : w.cell? ⟨g, 3, none⟩ = some (.string cd) := by rw [h1.cell]; rfl
  have f2 := h1.free 2
  have f3 := h1.free 3
  cases h : cd.toList.isEmpty
  · have q1 : ¬ cd.toList = [] := by intro e; rw [e] at h; cases h
    have q2 : (cd.toList == []) = false := by simpa using q1
    have HLI : Hid (lettI wd cd = wd ++ lettB cd) := by unfold Hid lettI; rw [h]; rfl
    obtain ⟨s, ok, hrun, hl, hsz, hok, hse⟩ := look_any h2 cd hc
    have hrunq : ∀ q, (Instr.lookup 133 (.map (some b)) (.string cd) true).run Tryz.prog (w.drewN q) = .ok (.tuple #[.string s, .bool ok]) (w.drewN q) := fun q => by
      obtain ⟨s2, ok2, hrun2, _, _, hok2, hse2⟩ := look_any (W := w.drewN q) h2 cd hc
      rw [hok2, hse2, ← hok, ← hse] at hrun2
      exact hrun2
    have hR : ∀ q, Hid (HeI w0 g b wds (wd ++ lettB cd) ⟨#[]⟩ (((w.drewN q).setCell ⟨g, 2, none⟩ (.string (wd ++ lettB cd))).setCell ⟨g, 3, none⟩ (.string ⟨#[]⟩))) := fun q => by
      obtain ⟨_, v', k1, k2, k3, k4⟩ := HeI.set (W := w.drewN q) (wd' := wd ++ lettB cd) (cd' := cd) (i := 2) (u := .string (wd ++ lettB cd)) hg h1 h2 h3 (below_drewN h4 q) rfl
      exact HeI.set hg k1 k2 k3 k4 rfl
    have HR := Lib.hid hR
    have HL := Lib.hid hl
    clear h1 h2 h3 h4 hrun hR hl hok hse
    cases ok
    all_goals
      go_enter Tryz.func116, Tryz.ntmps116
      go_wp2
      go_quiet (fail)
      go_wp2
      go_end0
      exact ⟨rfl, by have h := (HR.out nq).out; rw [HL.out] at h; rw [HLI.out, HL.out]; exact h⟩
  · have q2 : (cd.toList == []) = true := by have := List.isEmpty_iff.1 h; simpa using this
    have HLI : Hid (lettI wd cd = wd) := by unfold Hid lettI; rw [h]; rfl
    have he : cd = ⟨#[]⟩ := by
      have := List.isEmpty_iff.1 h
      rw [ByteArray.toList_eq] at this
      exact ByteArray.ext (by simpa using this)
    have HI : Hid (HeI w0 g b wds wd ⟨#[]⟩ w) := ⟨hg, v, by rw [← he]; exact h1, h2, h3, h4⟩
    clear h1 h2 h3 h4 he
    go_enter Tryz.func116, Tryz.ntmps116
    go_wp2
    refine bodyPost_ret (results_none rfl _ _ _) rfl ?_
    exact ⟨rfl, by rw [HLI.out]; exact HI.out⟩
def addW (wds : List ByteArray) (wd : ByteArray) : List ByteArray := if wd.toList.isEmpty then wds else wds ++ [wd]
theorem info9 : (Tryz.prog.info? 9).map (fun i => (i.zero, i.size, i.bytes)) = some (some (.string ⟨#[]⟩), 1, 16) := by kernel_rfl
theorem ownsRow_succA {W : World} {base : Nat} {e : TypeId} {size : Nat} {v : Value} {k : Nat} {xs : List Value} (h : W.ownsRow base e size v (k + 1) xs) : ∃ g cap, v = .slice (some ⟨g, 0, none⟩) (k + 1) cap := by
  rcases h.2 with ⟨_, h0⟩ | ⟨g, cap, _, h1, _⟩
  · omega
  · exact ⟨g, cap, h1⟩
theorem HeI.app {w0 W W2 : World} {g b : Nat} {wds : List ByteArray} {wd cd : ByteArray} {v v' : Value} {o : Obj} (hg : w0.heap.size ≤ g) (h1 : Row W g 136 (heB b v wd cd)) (h2 : W.ownsMap Tryz.prog 9 (plainElem Tryz.prog 9) b 26 (LD 26)) (h3 : W.ownsRow w0.heap.size 9 1 v wds.length (strs wds)) (h4 : Below w0.heap.size w0 W)
    (hgr : (W.alloc o).grownBy W2 v.ownBlock) (ho : W2.ownsRow w0.heap.size 9 1 v' (wds.length + 1) (strs wds ++ [.string wd])) : Row W2 g 136 (heB b v wd cd) ∧ HeI w0 g b (wds ++ [wd]) wd cd (W2.setCell ⟨g, 1, none⟩ v') := by
  have hnr := not_row h1 h3
  have hne : some g ≠ v.ownBlock := by
    rcases hnr with e | e
    · rw [e]; exact fun e => by cases e
    · exact fun e2 => e e2.symm
  have hbne : some b ≠ v.ownBlock := by
    intro e
    rcases h3.2 with ⟨e1, _⟩ | ⟨k, cap, cur, e1, _, e3, _⟩
    · rw [e1] at e; cases e
    · rw [e1] at e
      have e2 : b = k := by simpa [Value.ownBlock] using e
      subst e2
      obtain ⟨es, clock, m1, _⟩ := h2
      rw [e3] at m1; cases m1
  have k1 : Row W2 g 136 (heB b v wd cd) := (h1.alloc o).grown hgr hne
  have k2 := (h2.alloc o).kept hgr hbne
  have k4 : Below w0.heap.size w0 W2 := (h4.alloc h4.size o).grown hgr (by have := h4.size; simp; omega) (fun k hk => (h3.lt k hk).1)
  have hgr2 : W2.grownBy (W2.setCell ⟨g, 1, none⟩ v') (some g) := ⟨rfl, rfl, rfl, by simp, fun k _ hk => heap_setCell_other _ _ _ _ (fun e => hk (by rw [e]))⟩
  refine ⟨k1, hg, v', k1.set 1 v', k2.kept hgr2 (fun e => not_map k1 k2 (Option.some.inj e)), ?_, k4.setCell (by simpa using hg) _⟩
  have hl : (wds ++ [wd]).length = wds.length + 1 := by simp
  rw [hl, show strs (wds ++ [wd]) = strs wds ++ [.string wd] by simp [strs]]
  exact ho.kept hgr2 (not_row k1 ho)
theorem HeI.gen {p : World → Prop} {w0 W : World} {g b : Nat} {wds : List ByteArray} {wd cd : ByteArray} (h : HeI w0 g b wds wd cd W) (k : ∀ W, HeI w0 g b wds wd cd W → p W) : p W := k W h
theorem lettB_size {b : Nat} {W : World} (h : W.ownsMap Tryz.prog 9 (plainElem Tryz.prog 9) b 26 (LD 26)) (cd : ByteArray) (hc : cd.size ≤ 100000) : (lettB cd).size ≤ 1 := by
  obtain ⟨s, ok, _, hl, hs, _⟩ := look_any h cd hc
  rw [hl]; split
  · exact hs
  · exact Nat.le_refl 1
theorem lettI_size {w0 : World} {g b : Nat} {wds : List ByteArray} {wd cd : ByteArray} {W : World} (hI : HeI w0 g b wds wd cd W) (hc : cd.size ≤ 100000) : (lettI wd cd).size ≤ wd.size + 1 := by
  obtain ⟨_, v, _, h2, _, _⟩ := hI
  have := lettB_size h2 cd hc
  unfold lettI; split
  · omega
  · rw [ByteArray.size_append]; omega
set_option maxRecDepth 100000 in
set_option maxHeartbeats 1000000 in
theorem endWord_any (w0 : World) (g b : Nat) (wds : List ByteArray) (wd cd : ByteArray) (w : World) (hI : HeI w0 g b wds wd cd w) (hc : cd.size ≤ 100000) (hw : wd.size ≤ 100000) (hl : wds.length ≤ 100000) :
    Calls Tryz.prog 59 #[.pointer (some ⟨g, 0, none⟩)] w fun e w' => e = .returned (.tuple #[]) ∧ HeI w0 g b (addW wds (lettI wd cd)) ⟨#[]⟩ ⟨#[]⟩ w' := by
  have HE := Lib.hid (endLetter_any w0 g b wds wd cd w hI hc hw)
  obtain ⟨wd1, hwd1⟩ : ∃ wd1, wd1 = lettI wd cd := ⟨_, rfl⟩
  rw [← hwd1] at HE ⊢
  clear hI hwd1
  cases h : wd1.toList.isEmpty
  · have q1 : ¬ wd1.toList = [] := by intro e; rw [e] at h; cases h
    have q2 : (wd1.toList == []) = false := by simpa using q1
    have HA : Hid (addW wds wd1 = wds ++ [wd1]) := by unfold Hid addW; rw [h]; rfl
    go_enter Tryz.func59, Tryz.ntmps59
    go_wp2_with fail
    refine HE.out.mono ?_
    rintro e w1 ⟨rfl, hg, v, h1, h2, h3, h4⟩
    have c1 : w1.cell? ⟨g, 1, none⟩ = some v := by rw [h1.cell]; rfl
    have c2 : w1.cell? ⟨g, 2, none⟩ = some (.string wd1) := by rw [h1.cell]; rfl
    have f1 := h1.free 1
    have f2 := h1.free 2
    have nn1 := World.new_ne w1 ⟨g, 1, none⟩ c1
    have nn2 := World.new_ne w1 ⟨g, 2, none⟩ c2
    have a1 : ∀ o, (w1.alloc o).cell? ⟨g, 1, none⟩ = some v := fun o => keepC c1 ((Below.refl _ _).alloc (Nat.le_refl _) o)
    have H1 := Lib.hid h1; have H2 := Lib.hid h2; have H3 := Lib.hid h3; have H4 := Lib.hid h4
    clear h1 h2 h3 h4
    go_upto_region 2 with fail
    go_region_law (refine step_app rfl (.tmp 13) (.tmp 18) 51 rfl w0.heap.size 9 (.string ⟨#[]⟩) 1 16 Tryz.underlying51 info9 rfl (by decide) v wds.length (strs wds) rfl (H3.out.alloc _) w1.heap.size 1 1 [.string wd1] rfl 9 (Row.new w1 9 [.string wd1]) rfl (by simp [Value.oneCell']) (by unfold maxLen; omega) (by omega) (by have := H4.out.size; simp; omega) ?_; intro v' w2 ho2 hg2; obtain ⟨gq, cq, rfl⟩ := ownsRow_succA ho2; obtain ⟨k1, HI2⟩ := HeI.app (W := w1.drew) hg H1.out H2.out H3.out H4.out.drew (w0 := w0) (v := v) (o := .cells #[.string wd1] 9) hg2 ho2; have d1 : w2.cell? ⟨g, 1, none⟩ = some v := (by rw [k1.cell]; rfl); have e1 := k1.free 1; have HI2 := Lib.hid HI2; have K1 := Lib.hid k1; clear k1 ho2 hg2)
    all_goals
      refine HI2.out.gen ?_
      clear HI2 H1 H2 H3 H4 nn1 nn2 a1 c1 c2 f1 f2
      rintro w3 ⟨_, v3, m1, m2, m3, m4⟩
      have d2 : w3.cell? ⟨g, 2, none⟩ = some (.string wd1) := by rw [m1.cell]; rfl
      have e2 := m1.free 2
      have HF := Lib.hid (HeI.set (i := 2) (u := .string ⟨#[]⟩) (wd' := ⟨#[]⟩) (cd' := ⟨#[]⟩) hg m1 m2 m3 m4 rfl)
      clear m1 m2 m3 m4
      go_wp2
      go_end0
      exact ⟨rfl, by rw [HA.out]; exact HF.out⟩
  · have q2 : (wd1.toList == []) = true := by have := List.isEmpty_iff.1 h; simpa using this
    have HA : Hid (addW wds wd1 = wds) := by unfold Hid addW; rw [h]; rfl
    have he : wd1 = ⟨#[]⟩ := by
      have := List.isEmpty_iff.1 h
      rw [ByteArray.toList_eq] at this
      exact ByteArray.ext (by simpa using this)
    have HEE := Lib.hid he
    clear he
    go_enter Tryz.func59, Tryz.ntmps59
    go_wp2_with fail
    refine HE.out.mono ?_
    rintro e w1 ⟨rfl, hI1⟩
    have HI1 : Hid (HeI w0 g b wds ⟨#[]⟩ ⟨#[]⟩ w1) := by unfold Hid; rw [HEE.out] at hI1; exact hI1
    obtain ⟨hg, v, h1, h2, h3, h4⟩ := hI1
    have c2 : w1.cell? ⟨g, 2, none⟩ = some (.string wd1) := by rw [h1.cell]; rfl
    clear h1 h2 h3 h4
    go_wp2
    refine bodyPost_ret (results_none rfl _ _ _) rfl ?_
    exact ⟨rfl, by rw [HA.out]; exact HI1.out⟩
end Go.Proofs.YtlflfieknibgmaaGreatDoor
namespace Go.Proofs.YtlflfieknibgmaaGreatDoor
set_option linter.all false
open Go.RowKit Go.Fl



def bools (bs : List Bool) : List Value := bs.map Value.bool
theorem Rd.bool {w : World} {A : Option Addr} {xs : List Bool} (h : Rd w A (bools xs)) {j : Nat} (hj : j < xs.length) : ∃ b off, A = some ⟨b, off, none⟩ ∧ w.cell? ⟨b, off + j, none⟩ = some (.bool xs[j]) := by
  obtain ⟨b, off, h1, h2⟩ := Rd.at h (j := j) (by simpa [bools] using hj)
  exact ⟨b, off, h1, by rw [h2]; simp [bools]⟩
end Go.Proofs.YtlflfieknibgmaaGreatDoor
namespace Go.Proofs.YtlflfieknibgmaaGreatDoor
set_option linter.all false
open Go.RowKit Go.Maps Go.Fl
abbrev HeS := List ByteArray × ByteArray × ByteArray
def onS (s : HeS) (n d : Int) : HeS := (s.1, s.2.1, s.2.2 ++ if n < 2 * d then ⟨#[48]⟩ else ⟨#[49]⟩)
def endS (s : HeS) : HeS := (addW s.1 (lettI s.2.1 s.2.2), ⟨#[]⟩, ⟨#[]⟩)
def offS (s : HeS) (n d : Int) : HeS := if 5 * d ≤ n then endS s else if 2 * d ≤ n then (s.1, lettI s.2.1 s.2.2, ⟨#[]⟩) else s
def HeT (w0 : World) (g b : Nat) (s : HeS) (W : World) : Prop := HeI w0 g b s.1 s.2.1 s.2.2 W
def smallS (s : HeS) (k : Nat) : Prop := s.1.length ≤ k ∧ s.2.1.size ≤ k ∧ s.2.2.size ≤ k
theorem addW_len (l : List ByteArray) (wd : ByteArray) : (addW l wd).length ≤ l.length + 1 := by unfold addW; split <;> simp
theorem onS_small {s : HeS} {k : Nat} (h : smallS s k) (n d : Int) : smallS (onS s n d) (k + 1) := by
  obtain ⟨h1, h2, h3⟩ := h
  refine ⟨Nat.le_succ_of_le h1, Nat.le_succ_of_le h2, ?_⟩
  show (s.2.2 ++ _).size ≤ _
  rw [ByteArray.size_append]
  have : (if n < 2 * d then (⟨#[48]⟩ : ByteArray) else ⟨#[49]⟩).size = 1 := by split <;> rfl
  omega
theorem offS_small {w0 W : World} {g b : Nat} {s : HeS} {k : Nat} (hI : HeT w0 g b s W) (h : smallS s k) (hk : k ≤ 100000) (n d : Int) : smallS (offS s n d) (k + 1) := by
  obtain ⟨h1, h2, h3⟩ := h
  have hl := lettI_size hI (by omega)
  unfold offS
  split
  · refine ⟨?_, Nat.zero_le _, Nat.zero_le _⟩
    have := addW_len s.1 (lettI s.2.1 s.2.2)
    show (addW _ _).length ≤ _
    omega
  · split
    · exact ⟨Nat.le_succ_of_le h1, by show (lettI _ _).size ≤ _; omega, Nat.zero_le _⟩
    · exact ⟨Nat.le_succ_of_le h1, Nat.le_succ_of_le h2, Nat.le_succ_of_le h3⟩
theorem onT_any (w0 : World) (g b : Nat) (s : HeS) (k : Nat) (n d : Int) (w : World) (hI : HeT w0 g b s w) (hs : smallS s k) (hk : k ≤ 100000) (hn : 0 ≤ n ∧ n ≤ 100000) (hd : 0 ≤ d ∧ d ≤ 100) :
    Calls Tryz.prog 57 #[.pointer (some ⟨g, 0, none⟩), .int .i64 n, .int .i64 d] w fun e w' => e = .returned (.tuple #[]) ∧ HeT w0 g b (onS s n d) w' :=
  on_any w0 g b s.1 s.2.1 s.2.2 n d w hI hn hd (Nat.le_trans hs.2.2 hk)
set_option maxRecDepth 100000 in
set_option maxHeartbeats 400000 in
theorem offT_any (w0 : World) (g b : Nat) (s : HeS) (k : Nat) (n d : Int) (w : World) (hI : HeT w0 g b s w) (hs : smallS s k) (hk : k ≤ 100000) (hn : 0 ≤ n ∧ n ≤ 100000) (hd : 0 ≤ d ∧ d ≤ 100) :
    Calls Tryz.prog 58 #[.pointer (some ⟨g, 0, none⟩), .int .i64 n, .int .i64 d] w fun e w' => e = .returned (.tuple #[]) ∧ HeT w0 g b (offS s n d) w' := by
  have HW := Lib.hid (endWord_any w0 g b s.1 s.2.1 s.2.2 w hI (Nat.le_trans hs.2.2 hk) (Nat.le_trans hs.2.1 hk) (Nat.le_trans hs.1 hk))
  have HL := Lib.hid (endLetter_any w0 g b s.1 s.2.1 s.2.2 w hI (Nat.le_trans hs.2.2 hk) (Nat.le_trans hs.2.1 hk))
  have HI := Lib.hid hI
  clear hI hs
  by_cases h5 : 5 * d ≤ n
  · have HO : Hid (offS s n d = endS s) := by unfold Hid offS; rw [if_pos h5]
    go_enter Tryz.func58, Tryz.ntmps58
    go_wp2_with fail
    refine HW.out.mono ?_
    rintro e w1 ⟨rfl, h1⟩
    go_wp2
    go_end0
    exact ⟨rfl, by rw [HO.out]; exact h1⟩
  · by_cases h2 : 2 * d ≤ n
    · have HO : Hid (offS s n d = (s.1, lettI s.2.1 s.2.2, ⟨#[]⟩)) := by unfold Hid offS; rw [if_neg h5, if_pos h2]
      go_enter Tryz.func58, Tryz.ntmps58
      go_wp2_with fail
      refine HL.out.mono ?_
      rintro e w1 ⟨rfl, h1⟩
      go_wp2
      go_end0
      exact ⟨rfl, by rw [HO.out]; exact h1⟩
    · have HO : Hid (offS s n d = s) := by unfold Hid offS; rw [if_neg h5, if_neg h2]
      go_enter Tryz.func58, Tryz.ntmps58
      go_wp2
      go_end0
      exact ⟨rfl, by rw [HO.out]; exact HI.out⟩
def hearGo (xs : List Nat) (d : Int) : Nat → Nat → HeS → HeS
  | 0, _, s => s
  | f + 1, i, s => if i < xs.length then hearGo xs d f (spanEndL xs i) (if onB (xs.getD i 0) then onS s ((spanEndL xs i : Int) - i) d else offS s ((spanEndL xs i : Int) - i) d) else s
def heardL (xs : List Nat) (d : Int) : List ByteArray := (endS (hearGo xs d xs.length 0 ([], ⟨#[]⟩, ⟨#[]⟩))).1
theorem spanEndL_bd {xs : List Nat} {i : Nat} (h : i < xs.length) : i < spanEndL xs i ∧ spanEndL xs i ≤ xs.length := by
  have := runL_le (onB (xs.getD i 0)) (xs.drop (i + 1))
  rw [List.length_drop] at this
  unfold spanEndL; omega
theorem HeT.drewN {w0 W : World} {g b : Nat} {s : HeS} (h : HeT w0 g b s W) (q : Nat) : HeT w0 g b s (W.drewN q) := by
  obtain ⟨h0, v, h1, h2, h3, h4⟩ := h
  exact ⟨h0, v, h1, h2, h3, below_drewN h4 q⟩
theorem HeT.below {w0 W : World} {g b : Nat} {s : HeS} (h : HeT w0 g b s W) : Below w0.heap.size w0 W := by
  obtain ⟨_, v, _, _, _, h4⟩ := h; exact h4
def HeardR (w0 : World) (l : List ByteArray) (e : Ending) (w' : World) : Prop := ∃ v, (if 64 < l.length then e = .returned (.tuple #[.slice none 0 0, .int .i64 5]) else e = .returned (.tuple #[v, .int .i64 0]) ∧ w'.ownsRow w0.heap.size 9 1 v l.length (strs l)) ∧ Below w0.heap.size w0 w'
theorem heI_gen {p : World → Prop} {w0 W : World} {g b : Nat} {s : HeS} (h : HeT w0 g b s W) (k : ∀ W, HeT w0 g b s W → p W) : p W := k W h
set_option maxRecDepth 100000 in
set_option maxHeartbeats 1000000 in
theorem heard_ok (A : Option Addr) (n c : Nat) (xs : List Nat) (d : Int) (w : World) (hA : Rd w A (flts xs)) (hn : n = xs.length) (hm : xs.length ≤ 4096) (h0 : sampsI xs = 0) (hd : 1 ≤ d ∧ d ≤ 16) (hT : Tz w) :
    Calls Tryz.prog 15 #[.slice A n c, .int .i64 d] w fun e w' => HeardR w (heardL xs d) e w' := by
  subst hn
  have HC : Hid (Calls Tryz.prog 53 #[.slice A xs.length c] w fun e w' => e = .returned (.int .i64 0) ∧ Below w.heap.size w w') := by unfold Hid; rw [← h0]; exact checkSamples_any A _ c xs w hA rfl
  have HZ : Hid (whenI (rangeB d 1 16) 3 = 0) := by unfold Hid whenI rangeB; simp; omega
  have HA := Lib.hid hA; have HT := Lib.hid hT
  clear hA hT h0
  go_enter Tryz.func15, Tryz.ntmps15
  go_wp2_with (first
    | (go_at_call 53; refine HC.out.mono ?_; rintro e w1 ⟨rfl, hb1⟩; have HB1 := Lib.hid hb1; clear hb1)
    | (go_at_call 34; refine (between_any _ _ _ _).mono ?_; rintro e w3 ⟨rfl, rfl⟩; rw [HZ.out])
    | (go_at_call 32; refine (firstV_any _ _ _ [0, 0] _ (Rd.new _ _ _ _ rfl) rfl (by simp)).mono ?_; rintro e w3 ⟨rfl, rfl⟩)
    | (go_at_call 54; refine (letters_any _ (HT.out.old (HB1.out.alloc HB1.out.size _))).mono ?_; rintro e w4 ⟨b, rfl, hm4, hb4, hw4⟩; have HM4 := Lib.hid hm4; have HB4 := Lib.hid ((HB1.out.alloc HB1.out.size _).trans (hw4.mono (by have := HB1.out.size; simp; omega))); clear hm4 hw4 hb4))
  have HI0 : Hid (HeT w w4.heap.size b ([], ⟨#[]⟩, ⟨#[]⟩) (w4.alloc (.cells #[.map (some b), .slice none 0 0, .string ⟨#[]⟩, .string ⟨#[]⟩] 136))) :=
    ⟨HB4.out.size, .slice none 0 0, Row.new w4 _ (heB b (.slice none 0 0) ⟨#[]⟩ ⟨#[]⟩), HM4.out.alloc _, World.ownsRow_nil _ _ _ _, HB4.out.alloc HB4.out.size _⟩
  refine heI_gen HI0.out ?_
  clear HI0 HM4 HC HT
  intro w5 hi5
  have HI5 := Lib.hid hi5
  clear hi5
  go_loopg [8] xs.length (fun g i wr => ∃ (k : Nat) (s : HeS), k ≤ xs.length ∧ i = .int .i64 k ∧ Hid (hearGo xs d g k s = hearGo xs d xs.length 0 ([], ⟨#[]⟩, ⟨#[]⟩)) ∧ Hid (smallS s k) ∧ Hid (HeT w w4.heap.size b s wr) ∧ Hid (xs.length ≤ k + g))
  case atStart => exact ⟨0, _, Nat.zero_le _, rfl, rfl, ⟨Nat.le_refl _, Nat.le_refl _, Nat.le_refl _⟩, HI5, by show _ ≤ _; omega⟩
  case round =>
    obtain ⟨k, s, hk, rfl, Hg, Hs, HI, Hf⟩ := hrel
    by_cases hlt : k < xs.length
    · obtain ⟨f, rfl⟩ : ∃ f, gk = f + 1 := ⟨gk - 1, by have := Hf.out; omega⟩
      obtain ⟨bb, off, hAb, hc⟩ := Rd.flt (HA.out.below HI.out.below) hlt
      subst hAb
      have hsp := spanEndL_bd hlt
      have HSP : Hid (∀ W, Below w.heap.size w W → Calls Tryz.prog 55 #[.slice (some ⟨bb, off, none⟩) xs.length c, .int .i64 k] W fun e w' => e = .returned (.int .i64 (spanEndL xs k : Nat)) ∧ ∃ q, w' = W.drewN q) := fun W hW => spanEnd_any _ _ c xs k W (HA.out.below hW) rfl hlt (by omega)
      have hstep : hearGo xs d (f + 1) k s = hearGo xs d f (spanEndL xs k) (if onB (xs.getD k 0) then onS s ((spanEndL xs k : Int) - k) d else offS s ((spanEndL xs k : Int) - k) d) := by rw [hearGo, if_pos hlt]
      rw [Hg.out, show xs.getD k 0 = xs[k] by simp [hlt]] at hstep
      obtain ⟨tq, hto⟩ : ∃ tq, tq = spanEndL xs k := ⟨_, rfl⟩
      rw [← hto] at hsp HSP hstep
      obtain ⟨x, hx⟩ : ∃ x, x = xs[k] := ⟨_, rfl⟩
      rw [← hx] at hc hstep
      have e1 : IntKind.i64.wrap ((tq : Int) - (k : Int)) = (tq : Int) - (k : Int) := IntWalk.i64_in _ (by omega)
      have Hstep := Lib.hid hstep
      clear hstep hto hx
      cases hon : onB x
      · have HON := Lib.hid hon
        clear hon
        go_wp2_with (first
          | (go_at_call 55; refine (HSP.out _ HI.out.below).mono ?_; rintro e w6 ⟨rfl, q, rfl⟩; have HI6 := Lib.hid (HI.out.drewN q))
          | (go_at_call 56; refine (isOn_any _ _).mono ?_; rintro e w7 ⟨rfl, rfl⟩; rw [HON.out])
          | (go_at_call 58; refine (offT_any w w4.heap.size b s k _ d _ HI6.out Hs.out (by omega) (by omega) (by omega)).mono ?_; rintro e w8 ⟨rfl, hi8⟩; have HI8 := Lib.hid hi8; clear hi8))
        go_roundg f
        case measure => omega
        case rel =>
          refine ⟨tq, offS s ((tq : Int) - k) d, by omega, rfl, by show _ = _; rw [Hstep.out, HON.out]; rfl, ?_, HI8, by have := Hf.out; show _ ≤ _; omega⟩
          have h := offS_small HI.out Hs.out (by omega) ((tq : Int) - k) d
          exact ⟨Nat.le_trans h.1 (by omega), Nat.le_trans h.2.1 (by omega), Nat.le_trans h.2.2 (by omega)⟩
      · have HON := Lib.hid hon
        clear hon
        go_wp2_with (first
          | (go_at_call 55; refine (HSP.out _ HI.out.below).mono ?_; rintro e w6 ⟨rfl, q, rfl⟩; have HI6 := Lib.hid (HI.out.drewN q))
          | (go_at_call 56; refine (isOn_any _ _).mono ?_; rintro e w7 ⟨rfl, rfl⟩; rw [HON.out])
          | (go_at_call 57; refine (onT_any w w4.heap.size b s k _ d _ HI6.out Hs.out (by omega) (by omega) (by omega)).mono ?_; rintro e w8 ⟨rfl, hi8⟩; have HI8 := Lib.hid hi8; clear hi8))
        go_roundg f
        case measure => omega
        case rel =>
          refine ⟨tq, onS s ((tq : Int) - k) d, by omega, rfl, by show _ = _; rw [Hstep.out, HON.out]; rfl, ?_, HI8, by have := Hf.out; show _ ≤ _; omega⟩
          have h := onS_small Hs.out ((tq : Int) - k) d
          exact ⟨Nat.le_trans h.1 (by omega), Nat.le_trans h.2.1 (by omega), Nat.le_trans h.2.2 (by omega)⟩
    · have hend : hearGo xs d gk k s = s := by
        cases gk with
        | zero => rfl
        | succ f => rw [hearGo, if_neg hlt]
      have HL : Hid (heardL xs d = addW s.1 (lettI s.2.1 s.2.2)) := by unfold Hid heardL; rw [← Hg.out, hend]; rfl
      have HEW := Lib.hid (endWord_any w w4.heap.size b s.1 s.2.1 s.2.2 wr HI.out (by have := Hs.out.2.2; omega) (by have := Hs.out.2.1; omega) (by have := Hs.out.1; omega))
      obtain ⟨l, hl⟩ : ∃ l, l = addW s.1 (lettI s.2.1 s.2.2) := ⟨_, rfl⟩
      rw [← hl] at HL HEW
      clear hend hl
      by_cases h64 : 64 < l.length
      · go_wp2_with fail
        refine HEW.out.mono ?_
        rintro e w6 ⟨rfl, hg6, v, m1, m2, m3, m4⟩
        obtain ⟨Av, cv, rfl, _⟩ := owned_slice m3
        have c1 : w6.cell? ⟨w4.heap.size, 1, none⟩ = some (.slice Av l.length cv) := by rw [m1.cell]; rfl
        have M4 := Lib.hid m4
        clear m1 m2 m3 m4
        go_wp2
        go_ret2
        exact ⟨.slice none 0 0, by rw [HL.out, if_pos h64]; exact rfl, M4.out⟩
      · go_wp2_with fail
        refine HEW.out.mono ?_
        rintro e w6 ⟨rfl, hg6, v, m1, m2, m3, m4⟩
        obtain ⟨Av, cv, rfl, _⟩ := owned_slice m3
        have c1 : w6.cell? ⟨w4.heap.size, 1, none⟩ = some (.slice Av l.length cv) := by rw [m1.cell]; rfl
        have M4 := Lib.hid m4; have M3 := Lib.hid m3
        clear m1 m2 m3 m4
        go_wp2
        go_ret2
        exact ⟨.slice Av l.length cv, by rw [HL.out, if_neg h64]; exact ⟨rfl, M3.out⟩, M4.out⟩
end Go.Proofs.YtlflfieknibgmaaGreatDoor
namespace Go.Proofs.YtlflfieknibgmaaGreatDoor
set_option linter.all false
open Go.RowKit Go.Fl
def pieceK (d i : Nat) (c : UInt8) : List Nat := (if i = 0 then [] else List.replicate d 0) ++ List.replicate (if c.toNat = 49 then 3 * d else d) one32
def letP (d : Nat) (l : List UInt8) : Nat → List Nat
  | 0 => []
  | p + 1 => letP d l p ++ pieceK d p (l.getD p 0)
def letS (d : Nat) (l : List UInt8) : List Nat := letP d l l.length
theorem pieceK_le (d i : Nat) (c : UInt8) : (pieceK d i c).length ≤ 4 * d := by
  unfold pieceK; split <;> split <;> simp <;> omega
theorem letP_le (d : Nat) (l : List UInt8) (p : Nat) : (letP d l p).length ≤ p * (4 * d) := by
  induction p with
  | zero => simp [letP]
  | succ p ih =>
    rw [letP, List.length_append, Nat.succ_mul]
    have := pieceK_le d p (l.getD p 0)
    omega
theorem Step.ne {w w1 : World} {v v1 : Value} (h : Step w w1 v v1) {k : Nat} (hv : v.ownBlock ≠ some k) (hk : k < w.heap.size) : v1.ownBlock ≠ some k := by
  rcases h.2 with h2 | ⟨m, hm, hle⟩
  · rw [h2]; exact hv
  · rw [hm]; intro hh; cases hh; omega
set_option maxRecDepth 100000 in
set_option maxHeartbeats 2000000 in
theorem letterKeyed_any (B : Nat) (v : Value) (xs : List Nat) (s : ByteArray) (d : Nat) (w : World) (hown : w.ownsRow B 43 1 v xs.length (flts xs)) (hB : B ≤ w.heap.size) (hd : d ≤ 16) (hs : s.size ≤ 100) (hx : xs.length ≤ 100000) (hasc : ∀ i (h : i < s.size), (s[i]'h).toNat < 128) :
    Calls Tryz.prog 36 #[v, .string s, .int .i64 d] w fun e w' => ∃ v', e = .returned v' ∧ w'.ownsRow B 43 1 v' (xs ++ letS d s.data.toList).length (flts (xs ++ letS d s.data.toList)) ∧ Step w w' v v' := by
  have Hown := Lib.hid hown
  have Hasc := Lib.hid hasc
  clear hown hasc
  go_enter Tryz.func36, Tryz.ntmps36
  go_wp2
  have S0 : Hid (v.ownBlock ≠ some w.heap.size) := fun h => by have := (Hown.out.lt _ h).2; omega
  go_loopg [0] s.size (fun g u wr => ∃ p : Nat, p ≤ s.size ∧ g = s.size - p ∧ Hid (wr.heap[w.heap.size]? = some (.stringIter s p)) ∧ Hid (wr.ownsRow B 43 1 u (xs ++ letP d s.data.toList p).length (flts (xs ++ letP d s.data.toList p))) ∧ Hid (Step w wr v u) ∧ Hid (u.ownBlock ≠ some w.heap.size))
  case atStart => exact ⟨0, Nat.zero_le _, rfl, World.iter_heap w s 0, by have h := Hown.out.alloc (.stringIter s 0); show World.ownsRow _ _ _ _ _ _ _; simpa [letP, World.iter] using h, (Step.refl w v).alloc _, S0⟩
  case round =>
    obtain ⟨p, hp, hg, Hit, Ho, Hst, Hne⟩ := hrel
    subst hg
    by_cases hlt : p < s.size
    · have hnx := fun ty => Lib.run_next_ascii_at (P := Tryz.prog) wr w.heap.size s p ty Hit.out hlt (Hasc.out p hlt)
      have Hit1 := Lib.hid (Lib.iterAt_heap wr w.heap.size s p (p + 1) Hit.out)
      have Ho1 := Lib.hid (owns_iter Ho.out Hne.out s (p + 1))
      have Hst1 := Lib.hid (Hst.out.iter (Nat.le_refl _) s (p + 1))
      have hsz1 : w.heap.size + 1 ≤ (wr.iterAt w.heap.size s (p + 1)).heap.size := (Array.getElem?_eq_some_iff.1 Hit1.out).1
      have Hsz1 := Lib.hid hsz1
      obtain ⟨W, hW⟩ : ∃ W, W = wr.iterAt w.heap.size s (p + 1) := ⟨_, rfl⟩
      rw [← hW] at hnx Hit1 Ho1 Hst1 Hsz1
      have hget : s.data.toList.getD p 0 = s[p] := by rw [List.getD_eq_getElem?_getD, List.getElem?_eq_getElem (by simpa using hlt)]; rfl
      have hstep : letP d s.data.toList (p + 1) = letP d s.data.toList p ++ pieceK d p s[p] := by rw [letP, hget]
      have Hstep := Lib.hid hstep
      have hle := letP_le d s.data.toList p
      have hlen : (xs ++ letP d s.data.toList p).length ≤ 200000 := by
        rw [List.length_append]
        have : p * (4 * d) ≤ 100 * 64 := Nat.mul_le_mul (by omega) (by omega)
        omega
      have Hlen := Lib.hid hlen
      obtain ⟨ys, hys⟩ : ∃ ys, ys = xs ++ letP d s.data.toList p := ⟨_, rfl⟩
      rw [← hys] at Ho1 Hlen
      have Hys := Lib.hid hys
      obtain ⟨r, hr⟩ : ∃ r, r = s[p].toNat := ⟨_, rfl⟩
      have hpk : pieceK d p s[p] = (if p = 0 then [] else List.replicate d 0) ++ List.replicate (if r = 49 then 3 * d else d) one32 := by unfold pieceK; rw [hr]
      rw [← hr] at hnx
      have Hpk := Lib.hid hpk
      have HB0 : Hid (B ≤ w.heap.size) := hB
      clear hsz1 hW hget hstep hle hlen hys hr hpk hB
      have hBW : B ≤ W.heap.size := by have := Hsz1.out; have := HB0.out; omega
      have HBW := Lib.hid hBW
      clear hBW
      have h3 : ((3 : Int) * (d : Int)).toNat = 3 * d := by omega
      have H3 := Lib.hid h3
      clear h3
      by_cases h49 : r = 49
      · have h49b : ((r : Int) == 49) = true := by simp; omega
        have H49 : Hid ((r = 49) = True) := by unfold Hid; simp [h49]
        clear h49
        by_cases hp0 : p = 0
        · have HP : Hid ((p = 0) = True) := by unfold Hid; simp [hp0]
          have hp0b : decide (0 < p) = false := by simp; omega
          clear hp0
          go_wp2_with fail
          refine (held_step B u0 ys one32 (3 * (d : Int)) _ Ho1.out HBW.out (by omega) (by have := Hlen.out; omega)).mono ?_
          rintro e w2 ⟨v2, rfl, ho2, hst2⟩
          simp only [H3.out] at ho2
          have Hit2 := Lib.hid (hst2.heap Hit1.out (Ne.symm Hne.out))
          have Hne2 := Lib.hid (hst2.ne Hne.out (by have := Hsz1.out; omega))
          have Hst2 := Lib.hid (Hst1.out.trans hst2)
          have Ho2 : Hid (w2.ownsRow B 43 1 v2 (xs ++ letP d s.data.toList (p + 1)).length (flts (xs ++ letP d s.data.toList (p + 1)))) := by
            have e : xs ++ letP d s.data.toList (p + 1) = ys ++ List.replicate (3 * d) one32 := by rw [Hstep.out, ← List.append_assoc, ← Hys.out, Hpk.out]; simp [HP.out, H49.out]
            unfold Hid; rw [e]; exact ho2
          clear ho2 hst2
          go_wp2
          go_roundg (s.size - (p + 1))
          case measure => omega
          case rel => exact ⟨p + 1, by omega, rfl, Hit2, Ho2, Hst2, Hne2⟩
        · have HP : Hid ((p = 0) = False) := by unfold Hid; simp [hp0]
          have hp0b : decide (0 < p) = true := by simp; omega
          clear hp0
          go_wp2_with fail
          refine (held_step B u0 ys 0 (d : Int) _ Ho1.out HBW.out (by omega) (by have := Hlen.out; omega)).mono ?_
          rintro e w2 ⟨v2, rfl, ho2, hst1⟩
          simp only [Int.toNat_natCast] at ho2
          have HO2 := Lib.hid ho2
          have HS1 := Lib.hid hst1
          have hB2 : B ≤ w2.heap.size := by have := HBW.out; have := hst1.1.size; omega
          have HB2 := Lib.hid hB2
          have hl2 : (ys ++ List.replicate d 0).length ≤ 1000000 := by rw [List.length_append, List.length_replicate]; have := Hlen.out; omega
          have Hl2 := Lib.hid hl2
          clear ho2 hst1 hB2 hl2
          go_wp2_with fail
          refine (held_step B v2 (ys ++ List.replicate d 0) one32 (3 * (d : Int)) _ HO2.out HB2.out (by omega) Hl2.out).mono ?_
          rintro e w3 ⟨v3, rfl, ho3, hst2⟩
          simp only [H3.out] at ho3
          have hst2 := HS1.out.trans hst2
          have Hit2 := Lib.hid (hst2.heap Hit1.out (Ne.symm Hne.out))
          have Hne2 := Lib.hid (hst2.ne Hne.out (by have := Hsz1.out; omega))
          have Hst2 := Lib.hid (Hst1.out.trans hst2)
          have Ho2 : Hid (w3.ownsRow B 43 1 v3 (xs ++ letP d s.data.toList (p + 1)).length (flts (xs ++ letP d s.data.toList (p + 1)))) := by
            have e : xs ++ letP d s.data.toList (p + 1) = ys ++ List.replicate d 0 ++ List.replicate (3 * d) one32 := by rw [Hstep.out, ← List.append_assoc, ← Hys.out, Hpk.out]; simp [HP.out, H49.out]
            unfold Hid; rw [e]; exact ho3
          clear ho3 hst2
          go_wp2
          go_roundg (s.size - (p + 1))
          case measure => omega
          case rel => exact ⟨p + 1, by omega, rfl, Hit2, Ho2, Hst2, Hne2⟩
      · have h49b : ((r : Int) == 49) = false := by simp; omega
        have H49 : Hid ((r = 49) = False) := by unfold Hid; simp [h49]
        clear h49
        by_cases hp0 : p = 0
        · have HP : Hid ((p = 0) = True) := by unfold Hid; simp [hp0]
          have hp0b : decide (0 < p) = false := by simp; omega
          clear hp0
          go_wp2_with fail
          refine (held_step B u0 ys one32 (d : Int) _ Ho1.out HBW.out (by omega) (by have := Hlen.out; omega)).mono ?_
          rintro e w2 ⟨v2, rfl, ho2, hst2⟩
          simp only [Int.toNat_natCast] at ho2
          have Hit2 := Lib.hid (hst2.heap Hit1.out (Ne.symm Hne.out))
          have Hne2 := Lib.hid (hst2.ne Hne.out (by have := Hsz1.out; omega))
          have Hst2 := Lib.hid (Hst1.out.trans hst2)
          have Ho2 : Hid (w2.ownsRow B 43 1 v2 (xs ++ letP d s.data.toList (p + 1)).length (flts (xs ++ letP d s.data.toList (p + 1)))) := by
            have e : xs ++ letP d s.data.toList (p + 1) = ys ++ List.replicate d one32 := by rw [Hstep.out, ← List.append_assoc, ← Hys.out, Hpk.out]; simp [HP.out, H49.out]
            unfold Hid; rw [e]; exact ho2
          clear ho2 hst2
          go_wp2
          go_roundg (s.size - (p + 1))
          case measure => omega
          case rel => exact ⟨p + 1, by omega, rfl, Hit2, Ho2, Hst2, Hne2⟩
        · have HP : Hid ((p = 0) = False) := by unfold Hid; simp [hp0]
          have hp0b : decide (0 < p) = true := by simp; omega
          clear hp0
          go_wp2_with fail
          refine (held_step B u0 ys 0 (d : Int) _ Ho1.out HBW.out (by omega) (by have := Hlen.out; omega)).mono ?_
          rintro e w2 ⟨v2, rfl, ho2, hst1⟩
          simp only [Int.toNat_natCast] at ho2
          have HO2 := Lib.hid ho2
          have HS1 := Lib.hid hst1
          have hB2 : B ≤ w2.heap.size := by have := HBW.out; have := hst1.1.size; omega
          have HB2 := Lib.hid hB2
          have hl2 : (ys ++ List.replicate d 0).length ≤ 1000000 := by rw [List.length_append, List.length_replicate]; have := Hlen.out; omega
          have Hl2 := Lib.hid hl2
          clear ho2 hst1 hB2 hl2
          go_wp2_with fail
          refine (held_step B v2 (ys ++ List.replicate d 0) one32 (d : Int) _ HO2.out HB2.out (by omega) Hl2.out).mono ?_
          rintro e w3 ⟨v3, rfl, ho3, hst2⟩
          simp only [Int.toNat_natCast] at ho3
          have hst2 := HS1.out.trans hst2
          have Hit2 := Lib.hid (hst2.heap Hit1.out (Ne.symm Hne.out))
          have Hne2 := Lib.hid (hst2.ne Hne.out (by have := Hsz1.out; omega))
          have Hst2 := Lib.hid (Hst1.out.trans hst2)
          have Ho2 : Hid (w3.ownsRow B 43 1 v3 (xs ++ letP d s.data.toList (p + 1)).length (flts (xs ++ letP d s.data.toList (p + 1)))) := by
            have e : xs ++ letP d s.data.toList (p + 1) = ys ++ List.replicate d 0 ++ List.replicate d one32 := by rw [Hstep.out, ← List.append_assoc, ← Hys.out, Hpk.out]; simp [HP.out, H49.out]
            unfold Hid; rw [e]; exact ho3
          clear ho3 hst2
          go_wp2
          go_roundg (s.size - (p + 1))
          case measure => omega
          case rel => exact ⟨p + 1, by omega, rfl, Hit2, Ho2, Hst2, Hne2⟩
    · have hnx := fun ty => Lib.run_next_end_at (P := Tryz.prog) wr w.heap.size s p ty Hit.out hlt
      obtain rfl : p = s.size := by omega
      have hl : s.data.toList.length = s.size := by simp
      have Hl := Lib.hid hl
      clear hl
      go_wp2
      go_ret
      exact ⟨_, rfl, by unfold letS; rw [Hl.out]; exact Ho.out, Hst.out⟩
theorem codeL_small : ∀ k : Fin 26, (codeL k).length ≤ 8 ∧ ∀ c ∈ codeL k, c.toNat < 128 := by decide +kernel
theorem codeS_size (k : Nat) (hk : k < 26) : (codeS k).size ≤ 100 := by
  have := (codeL_small ⟨k, hk⟩).1
  show (codeL k).toArray.size ≤ 100
  simp at this ⊢; omega
theorem codeS_asc (k : Nat) (hk : k < 26) : ∀ i (h : i < (codeS k).size), ((codeS k)[i]'h).toNat < 128 := by
  intro i h
  have h2 := (codeL_small ⟨k, hk⟩).2
  exact h2 _ (Array.mem_toList_iff.2 (Array.getElem_mem (xs := (codeS k).data) h))
theorem codeS_list (k : Nat) : (codeS k).data.toList = codeL k := rfl
def keyP (d : Nat) (l : List UInt8) : Nat → List Nat
  | 0 => []
  | p + 1 => keyP d l p ++ ((if p = 0 then [] else List.replicate (3 * d) 0) ++ letS d (codeL ((l.getD p 0).toNat - 65)))
def keyedL (d : Nat) (l : List UInt8) : List Nat := keyP d l l.length ++ List.replicate (7 * d) 0
theorem letS_le (d k : Nat) (hk : k < 26) : (letS d (codeL k)).length ≤ 32 * d := by
  have h1 := letP_le d (codeL k) (codeL k).length
  have h2 := (codeL_small ⟨k, hk⟩).1
  have h3 : (codeL k).length * (4 * d) ≤ 8 * (4 * d) := Nat.mul_le_mul_right _ h2
  unfold letS; omega
theorem keyP_le (d : Nat) (l : List UInt8) (p : Nat) (hp : p ≤ l.length) (h : ∀ c ∈ l, 65 ≤ c.toNat ∧ c.toNat ≤ 90) : (keyP d l p).length ≤ p * (35 * d) := by
  induction p with
  | zero => simp [keyP]
  | succ p ih =>
    have ih := ih (by omega)
    have hm : l.getD p 0 ∈ l := by rw [List.getD_eq_getElem?_getD, List.getElem?_eq_getElem (by omega)]; exact List.getElem_mem _
    have hc := h _ hm
    have := letS_le d ((l.getD p 0).toNat - 65) (by omega)
    have e : (p + 1) * (35 * d) = p * (35 * d) + 35 * d := by rw [Nat.add_mul, Nat.one_mul]
    rw [keyP, List.length_append, List.length_append, e]
    split
    · simp only [List.length_nil]; omega
    · simp only [List.length_replicate]; omega
theorem Tz.step {w w1 : World} {u : Value} (h : Tz w) (k : Step w w1 (.slice none 0 0) u) : Tz w1 := k.1.cell h (by intro hh; cases hh)
theorem caps_of {l : List UInt8} (h : wordI l = 0) : l.isEmpty = false ∧ l.length ≤ 4 ∧ ∀ c ∈ l, 65 ≤ c.toNat ∧ c.toNat ≤ 90 := by
  cases he : l.isEmpty with
  | true => rw [List.isEmpty_iff.1 he, wordI_empty] at h; cases h
  | false =>
    by_cases h4 : 4 < l.length
    · rw [wordI_long h4] at h; cases h
    · rw [wordI_short he (by omega)] at h
      refine ⟨rfl, by omega, fun c hc => ?_⟩
      have hall : l.all (fun c => capB (u8I c)) = true := by
        cases ha : l.all (fun c => capB (u8I c)) with
        | true => rfl
        | false => rw [ha] at h; cases h
      have h2 := List.all_eq_true.1 hall c hc
      have h3 : (decide ((65 : Int) ≤ (c.toNat : Int)) && decide ((c.toNat : Int) ≤ 90)) = true := h2
      rw [Bool.and_eq_true, decide_eq_true_eq, decide_eq_true_eq] at h3
      omega
set_option maxRecDepth 100000 in
set_option maxHeartbeats 2000000 in
theorem keyed_ok (s : ByteArray) (d : Nat) (w : World) (hT : Tz w) (hd : 1 ≤ d) (hd2 : d ≤ 16) (hw : wordI s.data.toList = 0) :
    Calls Tryz.prog 7 #[.string s, .int .i64 d] w fun e w' => ∃ v, e = .returned (.tuple #[v, .int .i64 0]) ∧ w'.ownsRow w.heap.size 43 1 v (keyedL d s.data.toList).length (flts (keyedL d s.data.toList)) ∧ Below w.heap.size w w' := by
  obtain ⟨hc0, hc1, hc2⟩ := caps_of hw
  have HT := Lib.hid hT
  have HW := Lib.hid hw
  have HC := Lib.hid hc2
  have hsz : s.size ≤ 4 := by simpa using hc1
  have hr0 : rangeB (d : Int) 1 16 = false := by unfold rangeB; simp; omega
  have HR0 := Lib.hid hr0
  clear hT hw hc0 hc1 hc2 hr0
  go_enter Tryz.func7, Tryz.ntmps7
  go_wp2_with fail
  refine (checkWord_any _ _).mono ?_
  rintro e w1 ⟨rfl, hb1⟩
  rw [HW.out]
  go_wp2_with (first | (go_at_call 34; refine (between_any _ _ _ _).mono ?_; rintro e w' ⟨rfl, rfl⟩; rw [HR0.out]) | (go_at_call 32; refine (firstV_any _ _ _ [0, whenI false 3] _ ?_ rfl (by simp)).mono ?_; (exact Rd.new _ _ _ _ (by simp)); rintro e w' ⟨rfl, rfl⟩))
  have HB1 := Lib.hid hb1
  have HT1 : Hid (Tz w1) := HT.out.old hb1
  clear hb1
  go_loopg [7] s.size (fun g u wr => ∃ p : Nat, p ≤ s.size ∧ g = s.size - p ∧ Hid (wr.heap[w1.heap.size + 1]? = some (.stringIter s p)) ∧ Hid (wr.ownsRow w.heap.size 43 1 u (keyP d s.data.toList p).length (flts (keyP d s.data.toList p))) ∧ Hid (Step w1 wr (.slice none 0 0) u) ∧ Hid (u.ownBlock ≠ some (w1.heap.size + 1)))
  case atStart =>
    refine ⟨0, Nat.zero_le _, rfl, ?_, World.ownsRow_nil _ _ _ _, ((Step.refl w1 (.slice none 0 0)).alloc _).alloc _, fun h => by cases h⟩
    have h := World.iter_heap (w1.alloc (.cells #[.int .i64 0, .int .i64 (whenI false 3)] 31)) s 0
    rw [World.size_alloc] at h
    exact h
  case round =>
    obtain ⟨p, hp, hg, Hit, Ho, Hst, Hne⟩ := hrel
    subst hg
    have HB9 := Lib.hid HB1.out.size
    by_cases hlt : p < s.size
    · have hcap := HC.out s[p] (by exact Array.mem_toList_iff.2 (Array.getElem_mem (xs := s.data) hlt))
      obtain ⟨k, hk⟩ : ∃ k, s[p].toNat = 65 + k := ⟨s[p].toNat - 65, by omega⟩
      have hk26 : k < 26 := by omega
      have hnx := fun ty => Lib.run_next_ascii_at (P := Tryz.prog) wr (w1.heap.size + 1) s p ty Hit.out hlt (by omega)
      have Hit1 := Lib.hid (Lib.iterAt_heap wr (w1.heap.size + 1) s p (p + 1) Hit.out)
      have Ho1 := Lib.hid (owns_iter Ho.out Hne.out s (p + 1))
      have Hst1 := Lib.hid (Hst.out.iter (Nat.le_succ _) s (p + 1))
      have hsz1 : w1.heap.size + 1 + 1 ≤ (wr.iterAt (w1.heap.size + 1) s (p + 1)).heap.size := (Array.getElem?_eq_some_iff.1 Hit1.out).1
      have Hsz1 := Lib.hid hsz1
      obtain ⟨W, hW⟩ : ∃ W, W = wr.iterAt (w1.heap.size + 1) s (p + 1) := ⟨_, rfl⟩
      rw [← hW] at hnx Hit1 Ho1 Hst1 Hsz1
      rw [hk] at hnx
      have hget : s.data.toList.getD p 0 = s[p] := by rw [List.getD_eq_getElem?_getD, List.getElem?_eq_getElem (by simpa using hlt)]; rfl
      have hstep : keyP d s.data.toList (p + 1) = keyP d s.data.toList p ++ ((if p = 0 then [] else List.replicate (3 * d) 0) ++ letS d (codeL k)) := by rw [keyP, hget, hk, Nat.add_sub_cancel_left]
      have Hstep := Lib.hid hstep
      have hle := keyP_le d s.data.toList p (by simpa using hp) HC.out
      have hlen : (keyP d s.data.toList p).length ≤ 50000 := by
        have : p * (35 * d) ≤ 4 * (35 * 16) := Nat.mul_le_mul (by omega) (by omega)
        omega
      have Hlen := Lib.hid hlen
      obtain ⟨ys, hys⟩ : ∃ ys, ys = keyP d s.data.toList p := ⟨_, rfl⟩
      rw [← hys] at Ho1 Hlen
      have Hys := Lib.hid hys
      have HTW : Hid (Tz W) := HT1.out.step Hst1.out
      have HBW : Hid (w.heap.size ≤ W.heap.size) := by have := HB9.out; have := Hsz1.out; show _ ≤ _; omega
      have h3 : ((3 : Int) * (d : Int)).toNat = 3 * d := by omega
      have H3 := Lib.hid h3
      have wk1 : IntKind.i32.wrap (65 + (k : Int) - 65) = (k : Int) := by rw [show 65 + (k : Int) - 65 = k by omega]; exact IntWalk.i32_in _ (by omega)
      have wk2 : IntKind.i64.wrap (k : Int) = (k : Int) := IntWalk.i64_in _ (by omega)
      clear hsz1 hW hget hstep hle hlen hys h3 hcap
      by_cases hp0 : p = 0
      · have HP : Hid ((p = 0) = True) := by unfold Hid; simp [hp0]
        have hp0b : decide (0 < p) = false := by simp; omega
        clear hp0
        go_wp2_with (go_at_call 37; refine (code_any k hk26 _ HTW.out).mono ?_; rintro e w2 ⟨rfl, hb2⟩)
        have HO2 := Lib.hid (owns_below Ho1.out hb2)
        have HS1 : Hid (Step W w2 u7 u7) := ⟨⟨hb2.os, hb2.tape, hb2.output, hb2.size, fun j hj _ => hb2.block j hj⟩, .inl rfl⟩
        have hl2 : ys.length ≤ 100000 := by have := Hlen.out; omega
        have Hl2 := Lib.hid hl2
        have hB2 : w.heap.size ≤ w2.heap.size := by have := HBW.out; have := hb2.size; omega
        have HB2 := Lib.hid hB2
        clear hb2 hl2 hB2
        go_wp2_with fail
        refine (letterKeyed_any w.heap.size u7 ys (codeS k) d _ HO2.out HB2.out hd2 (codeS_size k hk26) Hl2.out (codeS_asc k hk26)).mono ?_
        rintro e w3 ⟨v3, rfl, ho3, hst3⟩
        rw [codeS_list] at ho3
        have hst2 := HS1.out.trans hst3
        clear hst3
        have Hit2 := Lib.hid (hst2.heap Hit1.out (Ne.symm Hne.out))
        have Hne2 := Lib.hid (hst2.ne Hne.out (by have := Hsz1.out; omega))
        have Hst2 := Lib.hid (Hst1.out.trans hst2)
        have Ho2 : Hid (w3.ownsRow w.heap.size 43 1 v3 (keyP d s.data.toList (p + 1)).length (flts (keyP d s.data.toList (p + 1)))) := by
          have e : keyP d s.data.toList (p + 1) = ys ++ letS d (codeL k) := by rw [Hstep.out, ← Hys.out]; simp [HP.out]
          unfold Hid; rw [e]; exact ho3
        clear ho3 hst2
        go_wp2
        go_roundg (s.size - (p + 1))
        case measure => omega
        case rel => exact ⟨p + 1, by omega, rfl, Hit2, Ho2, Hst2, Hne2⟩
      · have HP : Hid ((p = 0) = False) := by unfold Hid; simp [hp0]
        have hp0b : decide (0 < p) = true := by simp; omega
        clear hp0
        go_wp2_with fail
        refine (held_step w.heap.size u7 ys 0 (3 * (d : Int)) _ Ho1.out HBW.out (by omega) (by have := Hlen.out; omega)).mono ?_
        rintro e w2 ⟨v2, rfl, ho2, hst1⟩
        simp only [H3.out] at ho2
        have HO2 := Lib.hid ho2
        have HS1 := Lib.hid hst1
        have HTW2 : Hid (Tz w2) := HT1.out.step (Hst1.out.trans hst1)
        have hB2 : w.heap.size ≤ w2.heap.size := by have := HBW.out; have := hst1.1.size; omega
        have HB2 := Lib.hid hB2
        have hl2 : (ys ++ List.replicate (3 * d) 0).length ≤ 100000 := by rw [List.length_append, List.length_replicate]; have := Hlen.out; omega
        have Hl2 := Lib.hid hl2
        clear ho2 hst1 hB2 hl2
        go_wp2_with (go_at_call 37; refine (code_any k hk26 _ HTW2.out).mono ?_; rintro e w3 ⟨rfl, hb3⟩)
        have HO3 := Lib.hid (owns_below HO2.out hb3)
        have HS2 : Hid (Step w2 w3 v2 v2) := ⟨⟨hb3.os, hb3.tape, hb3.output, hb3.size, fun j hj _ => hb3.block j hj⟩, .inl rfl⟩
        have hB3 : w.heap.size ≤ w3.heap.size := by have := HB2.out; have := hb3.size; omega
        have HB3 := Lib.hid hB3
        clear hb3 hB3
        go_wp2_with fail
        refine (letterKeyed_any w.heap.size v2 (ys ++ List.replicate (3 * d) 0) (codeS k) d _ HO3.out HB3.out hd2 (codeS_size k hk26) Hl2.out (codeS_asc k hk26)).mono ?_
        rintro e w4 ⟨v4, rfl, ho4, hst4⟩
        rw [codeS_list] at ho4
        have hst2 := (HS1.out.trans HS2.out).trans hst4
        clear hst4
        have Hit2 := Lib.hid (hst2.heap Hit1.out (Ne.symm Hne.out))
        have Hne2 := Lib.hid (hst2.ne Hne.out (by have := Hsz1.out; omega))
        have Hst2 := Lib.hid (Hst1.out.trans hst2)
        have Ho2 : Hid (w4.ownsRow w.heap.size 43 1 v4 (keyP d s.data.toList (p + 1)).length (flts (keyP d s.data.toList (p + 1)))) := by
          have e : keyP d s.data.toList (p + 1) = ys ++ List.replicate (3 * d) 0 ++ letS d (codeL k) := by rw [Hstep.out, ← Hys.out]; simp [HP.out]
          unfold Hid; rw [e]; exact ho4
        clear ho4 hst2
        go_wp2
        go_roundg (s.size - (p + 1))
        case measure => omega
        case rel => exact ⟨p + 1, by omega, rfl, Hit2, Ho2, Hst2, Hne2⟩
    · have hnx := fun ty => Lib.run_next_end_at (P := Tryz.prog) wr (w1.heap.size + 1) s p ty Hit.out hlt
      obtain rfl : p = s.size := by omega
      have hl : s.data.toList.length = s.size := by simp
      have hle := keyP_le d s.data.toList s.size (by simp) HC.out
      have hlen : (keyP d s.data.toList s.size).length ≤ 1000000 := by
        have : s.size * (35 * d) ≤ 4 * (35 * 16) := Nat.mul_le_mul (by omega) (by omega)
        omega
      have hBW : w.heap.size ≤ wr.heap.size := by have := HB9.out; have := Hst.out.1.size; omega
      have Hlen := Lib.hid hlen
      have HBW := Lib.hid hBW
      have HK : Hid (keyedL d s.data.toList = keyP d s.data.toList s.size ++ List.replicate (7 * d) 0) := by unfold Hid keyedL; rw [hl]
      have h7 : ((7 : Int) * (d : Int)).toNat = 7 * d := by omega
      have H7 := Lib.hid h7
      clear hl hle hlen hBW h7
      go_wp2_with fail
      refine (held_step w.heap.size u7 (keyP d s.data.toList s.size) 0 (7 * (d : Int)) _ Ho.out HBW.out (by omega) Hlen.out).mono ?_
      rintro e w5 ⟨v5, rfl, ho5, hst5⟩
      have HB5 : Hid (Below w.heap.size w w5) := HB1.out.trans (((Below.refl w1.heap.size w1).grown (Hst.out.trans hst5).1 (Nat.le_refl _) (fun k hk => by cases hk)).mono HB9.out)
      simp only [H7.out] at ho5
      have HO5 := Lib.hid ho5
      clear ho5 hst5
      go_wp2
      go_ret2
      exact ⟨_, rfl, by rw [HK.out]; exact HO5.out, HB5.out⟩
end Go.Proofs.YtlflfieknibgmaaGreatDoor
