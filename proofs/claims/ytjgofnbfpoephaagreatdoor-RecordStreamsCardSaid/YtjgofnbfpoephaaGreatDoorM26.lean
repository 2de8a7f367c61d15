/- Texts that were made one by one: He Tp. -/
import Derived.Test.YtjgofnbfpoephaaGreatDoorM13
import Derived.Test.YtjgofnbfpoephaaGreatDoorM07
import Derived.Test.YtjgofnbfpoephaaGreatDoorM14
import Derived.Test.YtjgofnbfpoephaaGreatDoorM25
import Derived.Test.YtjgofnbfpoephaaGreatDoorM09
import Derived.WalkLawsBesides
import Derived.Deep.RegionLaw
/- Contracts: what is heard. -/
namespace Go.Proofs.YtjgofnbfpoephaaGreatDoor
set_option linter.all false
open Go.RowKit Go.Maps Go.Fl
set_option linter.unusedVariables false
set_option linter.unusedSimpArgs false

def heB (b : Nat) (v : Value) (wd cd : ByteArray) : List Value := [.map (some b), v, .string wd, .string cd]
/-- the letter of a code, or a question mark -/
def lettB (cd : ByteArray) : ByteArray := if has (LD 26) (.string cd.data.toList) then (match (LD 26).atKey (.string cd.data.toList) (.lit (.string [])) with | .lit (.string l) => ⟨l.toArray⟩ | _ => ⟨#[]⟩) else ⟨#[63]⟩
/-- the hearing in block g, with the letters in block b -/
def HeI (w0 : World) (g b : Nat) (wds : List ByteArray) (wd cd : ByteArray) (W : World) : Prop :=
  w0.heap.size ≤ g ∧ ∃ v, Row W g 203 (heB b v wd cd) ∧ W.ownsMap Tryz.prog 9 (plainElem Tryz.prog 9) b 26 (LD 26) ∧ W.ownsRow w0.heap.size 9 1 v wds.length (strs wds) ∧ Below w0.heap.size w0 W
theorem not_row {W : World} {g : Nat} {vs : List Value} {B n : Nat} {v : Value} {xs : List Value} (h : Row W g 203 vs) (hr : W.ownsRow B 9 1 v n xs) : v.ownBlock = none ∨ v.ownBlock ≠ some g := by
  rcases hr.2 with ⟨h1, _⟩ | ⟨k, cap, cur, h1, _, h3, _⟩
  · exact .inl (by rw [h1]; rfl)
  · refine .inr ?_
    rw [h1]
    intro e
    have e2 : k = g := by simpa [Value.ownBlock] using e
    subst e2
    rw [show W.heap[k]? = _ from h] at h3
    cases h3
theorem not_map {H : Type} {W : World} {g b n : Nat} {vs : List Value} {R : Value → Option (DataW H × List MemPlace)} {D : DataW H} {k t : TypeId} (h : Row W g t vs) (hm : W.ownsMap Tryz.prog k R b n D) : b ≠ g := by
  intro e; subst e
  obtain ⟨es, clock, h1, _⟩ := hm
  rw [show W.heap[b]? = _ from h] at h1
  cases h1
/-- one cell of the hearing is set -/
theorem HeI.set {w0 W : World} {g b : Nat} {wds : List ByteArray} {wd cd wd' cd' : ByteArray} {v : Value} {i : Nat} {u : Value} (hg : w0.heap.size ≤ g) (h1 : Row W g 203 (heB b v wd cd)) (h2 : W.ownsMap Tryz.prog 9 (plainElem Tryz.prog 9) b 26 (LD 26)) (h3 : W.ownsRow w0.heap.size 9 1 v wds.length (strs wds)) (h4 : Below w0.heap.size w0 W)
    (hs : (heB b v wd cd).set i u = heB b v wd' cd') : HeI w0 g b wds wd' cd' (W.setCell ⟨g, i, none⟩ u) := by
  have hgr : W.grownBy (W.setCell ⟨g, i, none⟩ u) (some g) := ⟨rfl, rfl, rfl, by simp, fun k _ hk => heap_setCell_other _ _ _ _ (fun e => hk (by rw [e]))⟩
  refine ⟨hg, v, by rw [← hs]; exact h1.set i u, h2.kept hgr (fun e => not_map h1 h2 (Option.some.inj e)), h3.kept hgr (not_row h1 h3), h4.setCell (by simpa using hg) _⟩

set_option maxRecDepth 100000 in
set_option maxHeartbeats 400000 in
theorem on_any (w0 : World) (g b : Nat) (wds : List ByteArray) (wd cd : ByteArray) (n d : Int) (w : World) (hI : HeI w0 g b wds wd cd w) (hn : 0 ≤ n ∧ n ≤ 100000) (hd : 0 ≤ d ∧ d ≤ 100) (hc : cd.size ≤ 100000) :
    Calls Tryz.prog 141 #[.pointer (some ⟨g, 0, none⟩), .int .i64 n, .int .i64 d] w fun e w' => e = .returned (.tuple #[]) ∧ HeI w0 g b wds wd (cd ++ if n < 2 * d then ⟨#[48]⟩ else ⟨#[49]⟩) w' := by
  obtain ⟨hg, v, h1, h2, h3, h4⟩ := hI
  have c3 : w.cell? ⟨g, 3, none⟩ = some (.string cd) := by rw [h1.cell]; rfl
  have f3 := h1.free 3
  have hR : ∀ u, Hid (HeI w0 g b wds wd u (w.setCell ⟨g, 3, none⟩ (.string u))) := fun u => HeI.set hg h1 h2 h3 h4 rfl
  have HR := Lib.hid hR
  clear hR h1 h2 h3 h4
  by_cases h : n < 2 * d
  · go_enter Tryz.func141, Tryz.ntmps141
    go_wp2
    go_end0
    exact ⟨rfl, (HR.out _).out⟩
  · go_enter Tryz.func141, Tryz.ntmps141
    go_wp2
    go_end0
    exact ⟨rfl, (HR.out _).out⟩

def shortD : DataW Unit → Bool
  | .map es => es.all fun p => match p.2 with | .lit (.string l) => decide (l.length ≤ 1) | _ => false
  | _ => false
theorem LD_short : shortD (LD 26) = true := by kernel_rfl
theorem atKey_short {D : DataW Unit} (h : shortD D = true) {kl : Lit} {s : List UInt8} (hs : D.atKey kl (.lit (.string [])) = .lit (.string s)) : s.length ≤ 1 := by
  cases D with
  | map es =>
    unfold DataW.atKey at hs
    simp only at hs
    split at hs
    · rename_i p hp
      have hm := List.mem_of_find?_eq_some hp
      have := List.all_eq_true.1 h p hm
      rw [hs] at this
      simpa using this
    · cases hs; exact Nat.zero_le _
  | _ => cases h
theorem look_any {b : Nat} {W : World} (h : W.ownsMap Tryz.prog 9 (plainElem Tryz.prog 9) b 26 (LD 26)) (cd : ByteArray) (hc : cd.size ≤ 100000) :
    ∃ s ok, (Instr.lookup 200 (.map (some b)) (.string cd) true).run Tryz.prog W = .ok (.tuple #[.string s, .bool ok]) W ∧ (lettB cd = if ok then s else ⟨#[63]⟩) ∧ s.size ≤ 1 ∧ ok = has (LD 26) (.string cd.data.toList) ∧ s = (match (LD 26).atKey (.string cd.data.toList) (.lit (.string [])) with | .lit (.string l) => ⟨l.toArray⟩ | _ => ⟨#[]⟩) := by
  have hkey := WideMaps.keyOf_string_mk (P := Tryz.prog) Tryz.underlying9 (s := cd) (by unfold maxLen; omega)
  have hz : (zeroValue 9).run Tryz.prog W = .ok (.string ⟨#[]⟩) W := by kernel_rfl
  obtain ⟨v, ps, hrun, hv⟩ := h.look_ok strKey Tryz.underlying200 hz (plainElem_string (H := Unit) (P := Tryz.prog) Tryz.underlying9 (s := ⟨#[]⟩) (by show 0 ≤ maxLen; exact Nat.zero_le _)) hkey
  obtain ⟨s, rfl, hs, _⟩ := plainElem_string_inv Tryz.underlying9 hv
  have hs3 := atKey_short LD_short (congrArg Prod.fst hs).symm.symm
  refine ⟨s, _, hrun, ?_, by show s.data.size ≤ 1; rw [← Array.length_toList]; exact hs3, rfl, ?_⟩
  · unfold lettB
    have hs2 : (LD 26).atKey (.string cd.data.toList) (.lit (.string [])) = .lit (.string s.data.toList) := (congrArg Prod.fst hs)
    rw [hs2]
  · have hs2 : (LD 26).atKey (.string cd.data.toList) (.lit (.string [])) = .lit (.string s.data.toList) := (congrArg Prod.fst hs)
    rw [hs2]

/-- the word behind the end of a letter -/
def lettI (wd cd : ByteArray) : ByteArray := if cd.toList.isEmpty then wd else wd ++ lettB cd
set_option maxRecDepth 100000 in
set_option maxHeartbeats 400000 in
theorem endLetter_any (w0 : World) (g b : Nat) (wds : List ByteArray) (wd cd : ByteArray) (w : World) (hI : HeI w0 g b wds wd cd w) (hc : cd.size ≤ 100000) (hw : wd.size ≤ 100000) :
    Calls Tryz.prog 180 #[.pointer (some ⟨g, 0, none⟩)] w fun e w' => e = .returned (.tuple #[]) ∧ HeI w0 g b wds (lettI wd cd) ⟨#[]⟩ w' := by
  obtain ⟨hg, v, h1, h2, h3, h4⟩ := hI
  have c0 : w.cell? ⟨g, 0, none⟩ = some (.map (some b)) := by rw [h1.cell]; rfl
  have c2 : w.cell? ⟨g, 2, none⟩ = some (.string wd) := by rw [h1.cell]; rfl
  have c3 : w.cell? ⟨g, 3, none⟩ = some (.string cd) := by rw [h1.cell]; rfl
  have f2 := h1.free 2
  have f3 := h1.free 3
  cases h : cd.toList.isEmpty
  · have q1 : ¬ cd.toList = [] := by intro e; rw [e] at h; cases h
    have q2 : (cd.toList == []) = false := by simpa using q1
    have HLI : Hid (lettI wd cd = wd ++ lettB cd) := by unfold Hid lettI; rw [h]; rfl
    obtain ⟨s, ok, hrun, hl, hsz, hok, hse⟩ := look_any h2 cd hc
    have hrunq : ∀ q, (Instr.lookup 200 (.map (some b)) (.string cd) true).run Tryz.prog (w.drewN q) = .ok (.tuple #[.string s, .bool ok]) (w.drewN q) := fun q => by
      obtain ⟨s2, ok2, hrun2, _, _, hok2, hse2⟩ := look_any (W := w.drewN q) h2 cd hc
      rw [hok2, hse2, ← hok, ← hse] at hrun2
      exact hrun2
    have hR : ∀ q, Hid (HeI w0 g b wds (wd ++ lettB cd) ⟨#[]⟩ (((w.drewN q).setCell ⟨g, 2, none⟩ (.string (wd ++ lettB cd))).setCell ⟨g, 3, none⟩ (.string ⟨#[]⟩))) := fun q => by
      obtain ⟨_, v', k1, k2, k3, k4⟩ := HeI.set (W := w.drewN q) (wd' := wd ++ lettB cd) (cd' := cd) (i := 2) (u := .string (wd ++ lettB cd)) hg h1 h2 h3 (below_drewN h4 q) rfl
      exact HeI.set hg k1 k2 k3 k4 rfl
    have HR := Lib.hid hR
    have HL := Lib.hid hl
    clear h1 h2 h3 h4 hrun hR hl hok hse
    cases ok
    all_goals
      go_enter Tryz.func180, Tryz.ntmps180
      go_wp2
      go_quiet (fail)
      go_wp2
      go_end0
      exact ⟨rfl, by have h := (HR.out nq).out; rw [HL.out] at h; rw [HLI.out, HL.out]; exact h⟩
  · have q2 : (cd.toList == []) = true := by have := List.isEmpty_iff.1 h; simpa using this
    have HLI : Hid (lettI wd cd = wd) := by unfold Hid lettI; rw [h]; rfl
    have he : cd = ⟨#[]⟩ := by
      have := List.isEmpty_iff.1 h
      rw [ByteArray.toList_eq] at this
      exact ByteArray.ext (by simpa using this)
    have HI : Hid (HeI w0 g b wds wd ⟨#[]⟩ w) := ⟨hg, v, by rw [← he]; exact h1, h2, h3, h4⟩
    clear h1 h2 h3 h4 he
    go_enter Tryz.func180, Tryz.ntmps180
    go_wp2
    refine bodyPost_ret (results_none rfl _ _ _) rfl ?_
    exact ⟨rfl, by rw [HLI.out]; exact HI.out⟩

/-- the words behind the end of a word -/
def addW (wds : List ByteArray) (wd : ByteArray) : List ByteArray := if wd.toList.isEmpty then wds else wds ++ [wd]
theorem info9 : (Tryz.prog.info? 9).map (fun i => (i.zero, i.size, i.bytes)) = some (some (.string ⟨#[]⟩), 1, 16) := by kernel_rfl
theorem ownsRow_succA {W : World} {base : Nat} {e : TypeId} {size : Nat} {v : Value} {k : Nat} {xs : List Value} (h : W.ownsRow base e size v (k + 1) xs) : ∃ g cap, v = .slice (some ⟨g, 0, none⟩) (k + 1) cap := by
  rcases h.2 with ⟨_, h0⟩ | ⟨g, cap, _, h1, _⟩
  · omega
  · exact ⟨g, cap, h1⟩
theorem HeI.app {w0 W W2 : World} {g b : Nat} {wds : List ByteArray} {wd cd : ByteArray} {v v' : Value} {o : Obj} (hg : w0.heap.size ≤ g) (h1 : Row W g 203 (heB b v wd cd)) (h2 : W.ownsMap Tryz.prog 9 (plainElem Tryz.prog 9) b 26 (LD 26)) (h3 : W.ownsRow w0.heap.size 9 1 v wds.length (strs wds)) (h4 : Below w0.heap.size w0 W)
    (hgr : (W.alloc o).grownBy W2 v.ownBlock) (ho : W2.ownsRow w0.heap.size 9 1 v' (wds.length + 1) (strs wds ++ [.string wd])) : Row W2 g 203 (heB b v wd cd) ∧ HeI w0 g b (wds ++ [wd]) wd cd (W2.setCell ⟨g, 1, none⟩ v') := by
  have hnr := not_row h1 h3
  have hne : some g ≠ v.ownBlock := by
    rcases hnr with e | e
    · rw [e]; exact fun e => by cases e
    · exact fun e2 => e e2.symm
  have hbne : some b ≠ v.ownBlock := by
    intro e
    rcases h3.2 with ⟨e1, _⟩ | ⟨k, cap, cur, e1, _, e3, _⟩
    · rw [e1] at e; cases e
    · rw [e1] at e
      have e2 : b = k := by simpa [Value.ownBlock] using e
      subst e2
      obtain ⟨es, clock, m1, _⟩ := h2
      rw [e3] at m1; cases m1
  have k1 : Row W2 g 203 (heB b v wd cd) := (h1.alloc o).grown hgr hne
  have k2 := (h2.alloc o).kept hgr hbne
  have k4 : Below w0.heap.size w0 W2 := (h4.alloc h4.size o).grown hgr (by have := h4.size; simp; omega) (fun k hk => (h3.lt k hk).1)
  have hgr2 : W2.grownBy (W2.setCell ⟨g, 1, none⟩ v') (some g) := ⟨rfl, rfl, rfl, by simp, fun k _ hk => heap_setCell_other _ _ _ _ (fun e => hk (by rw [e]))⟩
  refine ⟨k1, hg, v', k1.set 1 v', k2.kept hgr2 (fun e => not_map k1 k2 (Option.some.inj e)), ?_, k4.setCell (by simpa using hg) _⟩
  have hl : (wds ++ [wd]).length = wds.length + 1 := by simp
  rw [hl, show strs (wds ++ [wd]) = strs wds ++ [.string wd] by simp [strs]]
  exact ho.kept hgr2 (not_row k1 ho)
theorem HeI.gen {p : World → Prop} {w0 W : World} {g b : Nat} {wds : List ByteArray} {wd cd : ByteArray} (h : HeI w0 g b wds wd cd W) (k : ∀ W, HeI w0 g b wds wd cd W → p W) : p W := k W h
theorem lettB_size {b : Nat} {W : World} (h : W.ownsMap Tryz.prog 9 (plainElem Tryz.prog 9) b 26 (LD 26)) (cd : ByteArray) (hc : cd.size ≤ 100000) : (lettB cd).size ≤ 1 := by
  obtain ⟨s, ok, _, hl, hs, _⟩ := look_any h cd hc
  rw [hl]; split
  · exact hs
  · exact Nat.le_refl 1
theorem lettI_size {w0 : World} {g b : Nat} {wds : List ByteArray} {wd cd : ByteArray} {W : World} (hI : HeI w0 g b wds wd cd W) (hc : cd.size ≤ 100000) : (lettI wd cd).size ≤ wd.size + 1 := by
  obtain ⟨_, v, _, h2, _, _⟩ := hI
  have := lettB_size h2 cd hc
  unfold lettI; split
  · omega
  · rw [ByteArray.size_append]; omega

set_option maxRecDepth 100000 in
set_option maxHeartbeats 1000000 in
theorem endWord_any (w0 : World) (g b : Nat) (wds : List ByteArray) (wd cd : ByteArray) (w : World) (hI : HeI w0 g b wds wd cd w) (hc : cd.size ≤ 100000) (hw : wd.size ≤ 100000) (hl : wds.length ≤ 100000) :
    Calls Tryz.prog 143 #[.pointer (some ⟨g, 0, none⟩)] w fun e w' => e = .returned (.tuple #[]) ∧ HeI w0 g b (addW wds (lettI wd cd)) ⟨#[]⟩ ⟨#[]⟩ w' := by
  have HE := Lib.hid (endLetter_any w0 g b wds wd cd w hI hc hw)
  obtain ⟨wd1, hwd1⟩ : ∃ wd1, wd1 = lettI wd cd := ⟨_, rfl⟩
  rw [← hwd1] at HE ⊢
  clear hI hwd1
  cases h : wd1.toList.isEmpty
  · have q1 : ¬ wd1.toList = [] := by intro e; rw [e] at h; cases h
    have q2 : (wd1.toList == []) = false := by simpa using q1
    have HA : Hid (addW wds wd1 = wds ++ [wd1]) := by unfold Hid addW; rw [h]; rfl
    go_enter Tryz.func143, Tryz.ntmps143
    go_wp2_with fail
    refine HE.out.mono ?_
    rintro e w1 ⟨rfl, hg, v, h1, h2, h3, h4⟩
    have c1 : w1.cell? ⟨g, 1, none⟩ = some v := by rw [h1.cell]; rfl
    have c2 : w1.cell? ⟨g, 2, none⟩ = some (.string wd1) := by rw [h1.cell]; rfl
    have f1 := h1.free 1
    have f2 := h1.free 2
    have nn1 := World.new_ne w1 ⟨g, 1, none⟩ c1
    have nn2 := World.new_ne w1 ⟨g, 2, none⟩ c2
    have a1 : ∀ o, (w1.alloc o).cell? ⟨g, 1, none⟩ = some v := fun o => keepC c1 ((Below.refl _ _).alloc (Nat.le_refl _) o)
    have H1 := Lib.hid h1; have H2 := Lib.hid h2; have H3 := Lib.hid h3; have H4 := Lib.hid h4
    clear h1 h2 h3 h4
    go_upto_region 2 with fail
    go_region_law (refine step_app rfl (.tmp 13) (.tmp 18) 120 rfl w0.heap.size 9 (.string ⟨#[]⟩) 1 16 Tryz.underlying120 info9 rfl (by decide) v wds.length (strs wds) rfl (H3.out.alloc _) w1.heap.size 1 1 [.string wd1] rfl 9 (Row.new w1 9 [.string wd1]) rfl (by simp [Value.oneCell']) (by unfold maxLen; omega) (by omega) (by have := H4.out.size; simp; omega) ?_; intro v' w2 ho2 hg2; obtain ⟨gq, cq, rfl⟩ := ownsRow_succA ho2; obtain ⟨k1, HI2⟩ := HeI.app (W := w1.drew) hg H1.out H2.out H3.out H4.out.drew (w0 := w0) (v := v) (o := .cells #[.string wd1] 9) hg2 ho2; have d1 : w2.cell? ⟨g, 1, none⟩ = some v := (by rw [k1.cell]; rfl); have e1 := k1.free 1; have HI2 := Lib.hid HI2; have K1 := Lib.hid k1; clear k1 ho2 hg2)
    all_goals
      refine HI2.out.gen ?_
      clear HI2 H1 H2 H3 H4 nn1 nn2 a1 c1 c2 f1 f2
      rintro w3 ⟨_, v3, m1, m2, m3, m4⟩
      have d2 : w3.cell? ⟨g, 2, none⟩ = some (.string wd1) := by rw [m1.cell]; rfl
      have e2 := m1.free 2
      have HF := Lib.hid (HeI.set (i := 2) (u := .string ⟨#[]⟩) (wd' := ⟨#[]⟩) (cd' := ⟨#[]⟩) hg m1 m2 m3 m4 rfl)
      clear m1 m2 m3 m4
      go_wp2
      go_end0
      exact ⟨rfl, by rw [HA.out]; exact HF.out⟩
  · have q2 : (wd1.toList == []) = true := by have := List.isEmpty_iff.1 h; simpa using this
    have HA : Hid (addW wds wd1 = wds) := by unfold Hid addW; rw [h]; rfl
    have he : wd1 = ⟨#[]⟩ := by
      have := List.isEmpty_iff.1 h
      rw [ByteArray.toList_eq] at this
      exact ByteArray.ext (by simpa using this)
    have HEE := Lib.hid he
    clear he
    go_enter Tryz.func143, Tryz.ntmps143
    go_wp2_with fail
    refine HE.out.mono ?_
    rintro e w1 ⟨rfl, hI1⟩
    have HI1 : Hid (HeI w0 g b wds ⟨#[]⟩ ⟨#[]⟩ w1) := by unfold Hid; rw [HEE.out] at hI1; exact hI1
    obtain ⟨hg, v, h1, h2, h3, h4⟩ := hI1
    have c2 : w1.cell? ⟨g, 2, none⟩ = some (.string wd1) := by rw [h1.cell]; rfl
    clear h1 h2 h3 h4
    go_wp2
    refine bodyPost_ret (results_none rfl _ _ _) rfl ?_
    exact ⟨rfl, by rw [HA.out]; exact HI1.out⟩
end Go.Proofs.YtjgofnbfpoephaaGreatDoor

/- Contracts: the recording of the examples, told as the reference has it. -/
namespace Go.Proofs.YtjgofnbfpoephaaGreatDoor
set_option linter.all false
open Go.RowKit Go.Fl
set_option linter.unusedVariables false
set_option linter.unusedSimpArgs false

theorem results_row1 {P : Program} {fn : Func} {p : Tmp} {ty : TypeId} (h : fn.results = #[.cell p ty]) (tmps : Array Value) (w : World) (g : Nat) (e : TypeId) (cs : Array Value) (fr : Nat × Nat) (d : TypeDesc)
    (hp : tmps.getD p undef = .pointer (some ⟨g, 0, none⟩)) (hg : w.heap[g]? = some (.cells cs e fr))
    (hu : P.underlying ty = some d) (hd : (match d with | .struct _ | .array _ _ => true | _ => false) = true) (hi : (P.info? ty).map (·.size) = some cs.size) :
    (results fn tmps).run P w = .ok (.agg cs) w := by
  have hp' : tmps[p]?.getD undef = .pointer (some ⟨g, 0, none⟩) := by simpa using hp
  simp [results, h, hp', asAddr, run_loadVar_row w g e ty cs fr d hg hu hd hi]

def tapeX : List Nat := [1065353216, 1073741824, 1077936128, 1082130432]
def tapeM : List (Int × ByteArray) := [(1, ⟨#[111, 117, 116, 101, 114]⟩), (3, ⟨#[105, 110, 110, 101, 114]⟩)]
def tapeC (w : World) : List Value := [.int .i64 100, .int .i64 10, .slice (some ⟨w.heap.size + 1, 0, none⟩) 4 4, .slice (some ⟨w.heap.size + 1 + 1, 0, none⟩) 2 2]

set_option maxRecDepth 100000 in
set_option maxHeartbeats 1000000 in
theorem tape_ok (w : World) : Calls Tryz.prog 85 #[] w fun e w' => ∃ g1 g2, e = .returned (.agg #[.int .i64 100, .int .i64 10, .slice (some ⟨g1, 0, none⟩) 4 4, .slice (some ⟨g2, 0, none⟩) 2 2]) ∧ Row w' g1 37 (flts tapeX) ∧ Row w' g2 158 (markC tapeM) ∧ w.heap.size ≤ g1 ∧ w.heap.size ≤ g2 ∧ Below w.heap.size w w' := by
  have r0 : Row (((w.alloc (.cells zero4.toArray 98)).alloc (.cells (flts tapeX).toArray 37)).alloc (.cells (markC tapeM).toArray 158)) w.heap.size 98 zero4 := ((Row.new w 98 zero4).alloc _).alloc _
  have r1 : Row (((w.alloc (.cells zero4.toArray 98)).alloc (.cells (flts tapeX).toArray 37)).alloc (.cells (markC tapeM).toArray 158)) (w.heap.size + 1) 37 (flts tapeX) := by
    have h := (Row.new (w.alloc (.cells zero4.toArray 98)) 37 (flts tapeX)).alloc (.cells (markC tapeM).toArray 158)
    rwa [World.size_alloc] at h
  have r2 : Row (((w.alloc (.cells zero4.toArray 98)).alloc (.cells (flts tapeX).toArray 37)).alloc (.cells (markC tapeM).toArray 158)) (w.heap.size + 1 + 1) 158 (markC tapeM) := by
    have h := Row.new ((w.alloc (.cells zero4.toArray 98)).alloc (.cells (flts tapeX).toArray 37)) 158 (markC tapeM)
    rwa [World.size_alloc, World.size_alloc] at h
  have rb : Below w.heap.size w (((w.alloc (.cells zero4.toArray 98)).alloc (.cells (flts tapeX).toArray 37)).alloc (.cells (markC tapeM).toArray 158)) := (((Below.refl w.heap.size w).alloc (Nat.le_refl _) _).alloc (by simp) _).alloc (by simp; omega) _
  have H0 := Lib.hid r0; have H1 := Lib.hid r1; have H2 := Lib.hid r2; have HB := Lib.hid rb
  clear r0 r1 r2 rb
  go_enter Tryz.func85, Tryz.ntmps85
  go_wp2_with (refine wpList_store_row rfl 98 _ _ rfl w.heap.size (tapeC w).toArray rfl rfl 98 _ H0.out ?_ ?_ ?_ ?_; (kernel_rfl); (rfl); (simp [tapeC, Value.oneCell']))
  refine bodyPost_ret (results_row1 rfl _ _ w.heap.size 98 (tapeC w).toArray (0, 0) _ rfl (H0.out.setRow (tapeC w)) Tryz.underlying98 rfl (by kernel_rfl)) rfl ⟨w.heap.size + 1, w.heap.size + 1 + 1, rfl, ?_, ?_, by omega, by omega, ?_⟩
  · exact Row.farRow H1.out (by omega) _
  · exact Row.farRow H2.out (by omega) _
  · exact Below.setRow HB.out (Nat.le_refl _) _

theorem fields185 : ((Tryz.prog.fieldsOf 186).toList.map fun f => (f.name, f.type, f.offset)) = [("Index", 3, 0), ("Name", 9, 1)] := by kernel_rfl
theorem neqMark (a c : Int) (b d : ByteArray) (w : World) : (binOp .neq 186 (.agg #[.int .i64 a, .string b]) (.agg #[.int .i64 c, .string d])).run Tryz.prog w = .ok (.bool (!(a == c && b.toList == d.toList))) w := by
  have i3 := Tryz.underlying3
  have i9 := Tryz.underlying9
  have e1 : ∀ (a : Int) (b : ByteArray), (part 3 #[.int .i64 a, .string b] 0).run Tryz.prog w = .ok (.int .i64 a) w := fun a b => part_int _ _ _ rfl w
  have e2 : ∀ (a : Int) (b : ByteArray), (part 9 #[.int .i64 a, .string b] 1).run Tryz.prog w = .ok (.string b) w := fun a b => by simp [part, run_underlying i9]
  have e4 := fun (a b : Int) => run_equalIn_int (P := Tryz.prog) w 9998 3 .i64 .i64 a b i3
  have e5 := fun (a b : ByteArray) => run_equalIn_string (P := Tryz.prog) w 9998 9 a b i9
  have n1 : ("Index" : String) ≠ "_" := by decide
  have n2 : ("Name" : String) ≠ "_" := by decide
  rw [run_neq_struct, run_eqStruct w 9999 _ _ _ _ (by kernel_rfl) (by kernel_rfl) fields185]
  simp only [eqTriples, if_pos n1, if_pos n2, Sem.run_bind, e1, e2, e4, e5, Result.andThen_ok, Sem.run_ite, Sem.run_pure]
  cases a == c <;> cases b.toList == d.toList <;> simp [e1, e2, e4, e5]
end Go.Proofs.YtjgofnbfpoephaaGreatDoor
