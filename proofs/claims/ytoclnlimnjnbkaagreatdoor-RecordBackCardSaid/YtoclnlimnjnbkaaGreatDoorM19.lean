import Derived.Test.YtoclnlimnjnbkaaGreatDoorM18
import Derived.WalkLawsBesides
import Derived.Deep.RegionLaw
import Derived.Test.YtoclnlimnjnbkaaGreatDoorM26
import Derived.WalkMore
namespace Go.Proofs.YtoclnlimnjnbkaaGreatDoor
set_option linter.all false
open Go.RowKit Go.Maps Go.Fl
def heB (b : Nat) (v : Value) (wd cd : ByteArray) : List Value := [.map (some b), v, .string wd, .string cd]
def lettB (cd : ByteArray) : ByteArray := if has (LD 26) (.string cd.data.toList) then (match (LD 26).atKey (.string cd.data.toList) (.lit (.string [])) with | .lit (.string l) => ⟨l.toArray⟩ | _ => ⟨#[]⟩) else ⟨#[63]⟩
def HeI (w0 : World) (g b : Nat) (wds : List ByteArray) (wd cd : ByteArray) (W : World) : Prop :=
  w0.heap.size ≤ g ∧ ∃ v, Row W g 175 (heB b v wd cd) ∧ W.ownsMap Tryz.prog 9 (plainElem Tryz.prog 9) b 26 (LD 26) ∧ W.ownsRow w0.heap.size 9 1 v wds.length (strs wds) ∧ Below w0.heap.size w0 W
theorem not_row {W : World} {g : Nat} {vs : List Value} {B n : Nat} {v : Value} {xs : List Value} (h : Row W g 175 vs) (hr : W.ownsRow B 9 1 v n xs) : v.ownBlock = none ∨ v.ownBlock ≠ some g := by
  rcases hr.2 with ⟨h1, _⟩ | ⟨k, cap, cur, h1, _, h3, _⟩
  · exact .inl (by rw [h1]; rfl)
  · refine .inr ?_
    rw [h1]
    intro e
    have e2 : k = g := by simpa [Value.ownBlock] using e
    subst e2
    rw [show W.heap[k]? = _ from h] at h3
    cases h3
theorem not_map {H : Type} {W : World} {g b n : Nat} {vs : List Value} {R : Value → Option (DataW H × List MemPlace)} {D : DataW H} {k t : TypeId} (h : Row W g t vs) (hm : W.ownsMap Tryz.prog k R b n D) : b ≠ g := by
  intro e; subst e
  obtain ⟨es, clock, h1, _⟩ := hm
  rw [show W.heap[b]? = _ from h] at h1
  cases h1
theorem HeI.set {w0 W : World} {g b : Nat} {wds : List ByteArray} {wd cd wd' cd' : ByteArray} {v : Value} {i : Nat} {u : Value} (hg : w0.heap.size ≤ g) (h1 : Row W g 175 (heB b v wd cd)) (h2 : W.ownsMap Tryz.prog 9 (plainElem Tryz.prog 9) b 26 (LD 26)) (h3 : W.ownsRow w0.heap.size 9 1 v wds.length (strs wds)) (h4 : Below w0.heap.size w0 W)
    (hs : (heB b v wd cd).set i u = heB b v wd' cd') : HeI w0 g b wds wd' cd' (W.setCell ⟨g, i, none⟩ u) := by
  have hgr : W.grownBy (W.setCell ⟨g, i, none⟩ u) (some g) := ⟨rfl, rfl, rfl, by simp, fun k _ hk => heap_setCell_other _ _ _ _ (fun e => hk (by rw [e]))⟩
  refine ⟨hg, v, by rw [← hs]; exact h1.set i u, h2.kept hgr (fun e => not_map h1 h2 (Option.some.inj e)), h3.kept hgr (not_row h1 h3), h4.setCell (by simpa using hg) _⟩
set_option maxRecDepth 100000 in
set_option maxHeartbeats 400000 in
theorem on_any (w0 : World) (g b : Nat) (wds : List ByteArray) (wd cd : ByteArray) (n d : Int) (w : World) (hI : HeI w0 g b wds wd cd w) (hn : 0 ≤ n ∧ n ≤ 100000) (hd : 0 ≤ d ∧ d ≤ 100) (hc : cd.size ≤ 100000) :
    Calls Tryz.prog 91 #[.pointer (some ⟨g, 0, none⟩), .int .i64 n, .int .i64 d] w fun e w' => e = .returned (.tuple #[]) ∧ HeI w0 g b wds wd (cd ++ if n < 2 * d then ⟨#[48]⟩ else ⟨#[49]⟩) w' := by
  obtain ⟨hg, v, h1, h2, h3, h4⟩ := hI
  have c3 : w.cell? ⟨g, 3, none⟩ = some (.string cd) := by rw [h1.cell]; rfl
  have f3 := h1.free 3
  have hR : ∀ u, Hid (HeI w0 g b wds wd u (w.setCell ⟨g, 3, none⟩ (.string u))) := fun u => HeI.set hg h1 h2 h3 h4 rfl
  have HR := Lib.hid hR
  clear hR h1 h2 h3 h4
  by_cases h : n < 2 * d
  · go_enter Tryz.func91, Tryz.ntmps91
    go_wp2
    go_end0
    exact ⟨rfl, (HR.out _).out⟩
  · go_enter Tryz.func91, Tryz.ntmps91
    go_wp2
    go_end0
    exact ⟨rfl, (HR.out _).out⟩
def shortD : DataW Unit → Bool
  | .map es => es.all fun p => match p.2 with | .lit (.string l) => decide (l.length ≤ 1) | _ => false
  | _ => false
theorem LD_short : shortD (LD 26) = true := by kernel_rfl
theorem atKey_short {D : DataW Unit} (h : shortD D = true) {kl : Lit} {s : List UInt8} (hs : D.atKey kl (.lit (.string [])) = .lit (.string s)) : s.length ≤ 1 := by
  cases D with
  | map es =>
    unfold DataW.atKey at hs
    simp only at hs
    split at hs
    · rename_i p hp
      have hm := List.mem_of_find?_eq_some hp
      have := List.all_eq_true.1 h p hm
      rw [hs] at this
      simpa using this
    · cases hs; exact Nat.zero_le _
  | _ => cases h
theorem look_any {b : Nat} {W : World} (h : W.ownsMap Tryz.prog 9 (plainElem Tryz.prog 9) b 26 (LD 26)) (cd : ByteArray) (hc : cd.size ≤ 100000) :
    ∃ s ok, (Instr.lookup 172 (.map (some b)) (.string cd) true).run Tryz.prog W = .ok (.tuple #[.string s, .bool ok]) W ∧ (lettB cd = if ok then s else ⟨#[63]⟩) ∧ s.size ≤ 1 ∧ ok = has (LD 26) (.string cd.data.toList) ∧ s = (match (LD 26).atKey (.string cd.data.toList) (.lit (.string [])) with | .lit (.string l) => ⟨l.toArray⟩ | _ => ⟨#[]⟩) := by
  have hkey := WideMaps.keyOf_string_mk (P := Tryz.prog) Tryz.underlying9 (s := cd) (by unfold maxLen; omega)
  have hz : (zeroValue 9).run Tryz.prog W = .ok (.string ⟨#[]⟩) W := by kernel_rfl
  obtain ⟨v, ps, hrun, hv⟩ := h.look_ok strKey Tryz.underlying172 hz (plainElem_string (H := Unit) (P := Tryz.prog) Tryz.underlying9 (s := ⟨#[]⟩) (by show 0 ≤ maxLen; exact Nat.zero_le _)) hkey
  obtain ⟨s, rfl, hs, _⟩ := plainElem_string_inv Tryz.underlying9 hv
  have hs3 := atKey_short LD_short (congrArg Prod.fst hs).symm.symm
  refine ⟨s, _, hrun, ?_, by show s.data.size ≤ 1; rw [← Array.length_toList]; exact hs3, rfl, ?_⟩
  · unfold lettB
    have hs2 : (LD 26).atKey (.string cd.data.toList) (.lit (.string [])) = .lit (.string s.data.toList) := (congrArg Prod.fst hs)
    rw [hs2]
  · have hs2 : (LD 26).atKey (.string cd.data.toList) (.lit (.string [])) = .lit (.string s.data.toList) := (congrArg Prod.fst hs)
    rw [hs2]
def lettI (wd cd : ByteArray) : ByteArray := if cd.toList.isEmpty then wd else wd ++ lettB cd
set_option maxRecDepth 100000 in
set_option maxHeartbeats 400000 in
theorem endLetter_any (w0 : World) (g b : Nat) (wds : List ByteArray) (wd cd : ByteArray) (w : World) (hI : HeI w0 g b wds wd cd w) (hc : cd.size ≤ 100000) (hw : wd.size ≤ 100000) :
    Calls Tryz.prog 129 #[.pointer (some ⟨g, 0, none⟩)] w fun e w' => e = .returned (.tuple #[]) ∧ HeI w0 g b wds (lettI wd cd) ⟨#[]⟩ w' := by
  obtain ⟨hg, v, h1, h2, h3, h4⟩ := hI
  have c0 : w.cell? ⟨g, 0, none⟩ = some (.map (some b)) := by rw [h1.cell]; rfl
  have c2 : w.cell? ⟨g, 2, none⟩ = some (.string wd) := by rw [h1.cell]; rfl
  have c3 : w.cell? ⟨g, 3, none⟩ = some (.string cd) := by rw [h1.cell]; rfl
  have f2 := h1.free 2
  have f3 := h1.free 3
  cases h : cd.toList.isEmpty
  · have q1 : ¬ cd.toList = [] := by intro e; rw [e] at h; cases h
    have q2 : (cd.toList == []) = false := by simpa using q1
    have HLI : Hid (lettI wd cd = wd ++ lettB cd) := by unfold Hid lettI; rw [h]; rfl
    obtain ⟨s, ok, hrun, hl, hsz, hok, hse⟩ := look_any h2 cd hc
    have hrunq : ∀ q, (Instr.lookup 172 (.map (some b)) (.string cd) true).run Tryz.prog (w.drewN q) = .ok (.tuple #[.string s, .bool ok]) (w.drewN q) := fun q => by
      obtain ⟨s2, ok2, hrun2, _, _, hok2, hse2⟩ := look_any (W := w.drewN q) h2 cd hc
      rw [hok2, hse2, ← hok, ← hse] at hrun2
      exact hrun2
    have hR : ∀ q, Hid (HeI w0 g b wds (wd ++ lettB cd) ⟨#[]⟩ (((w.drewN q).setCell ⟨g, 2, none⟩ (.string (wd ++ lettB cd))).setCell ⟨g, 3, none⟩ (.string ⟨#[]⟩))) := fun q => by
      obtain ⟨_, v', k1, k2, k3, k4⟩ := HeI.set (W := w.drewN q) (wd' := wd ++ lettB cd) (cd' := cd) (i := 2) (u := .string (wd ++ lettB cd)) hg h1 h2 h3 (below_drewN h4 q) rfl
      exact HeI.set hg k1 k2 k3 k4 rfl
    have HR := Lib.hid hR
    have HL := Lib.hid hl
    clear h1 h2 h3 h4 hrun hR hl hok hse
    cases ok
    all_goals
      go_enter Tryz.func129, Tryz.ntmps129
      go_wp2
      go_quiet (fail)
      go_wp2
      go_end0
      exact ⟨rfl, by have h := (HR.out nq).out; rw [HL.out] at h; rw [HLI.out, HL.out]; exact h⟩
  · have q2 : (cd.toList == []) = true := by have := List.isEmpty_iff.1 h; simpa using this
    have HLI : Hid (lettI wd cd = wd) := by unfold Hid lettI; rw [h]; rfl
    have he : cd = ⟨#[]⟩ := by
      have := List.isEmpty_iff.1 h
      rw [ByteArray.toList_eq] at this
      exact ByteArray.ext (by simpa using this)
    have HI : Hid (HeI w0 g b wds wd ⟨#[]⟩ w) := ⟨hg, v, by rw [← he]; exact h1, h2, h3, h4⟩
    clear h1 h2 h3 h4 he
    go_enter Tryz.func129, Tryz.ntmps129
    go_wp2
    refine bodyPost_ret (results_none rfl _ _ _) rfl ?_
    exact ⟨rfl, by rw [HLI.out]; exact HI.out⟩
def addW (wds : List ByteArray) (wd : ByteArray) : List ByteArray := if wd.toList.isEmpty then wds else wds ++ [wd]
theorem info9 : (Tryz.prog.info? 9).map (fun i => (i.zero, i.size, i.bytes)) = some (some (.string ⟨#[]⟩), 1, 16) := by kernel_rfl
theorem ownsRow_succA {W : World} {base : Nat} {e : TypeId} {size : Nat} {v : Value} {k : Nat} {xs : List Value} (h : W.ownsRow base e size v (k + 1) xs) : ∃ g cap, v = .slice (some ⟨g, 0, none⟩) (k + 1) cap := by
  rcases h.2 with ⟨_, h0⟩ | ⟨g, cap, _, h1, _⟩
  · omega
  · exact ⟨g, cap, h1⟩
theorem HeI.app {w0 W W2 : World} {g b : Nat} {wds : List ByteArray} {wd cd : ByteArray} {v v' : Value} {o : Obj} (hg : w0.heap.size ≤ g) (h1 : Row W g 175 (heB b v wd cd)) (h2 : W.ownsMap Tryz.prog 9 (plainElem Tryz.prog 9) b 26 (LD 26)) (h3 : W.ownsRow w0.heap.size 9 1 v wds.length (strs wds)) (h4 : Below w0.heap.size w0 W)
    (hgr : (W.alloc o).grownBy W2 v.ownBlock) (ho : W2.ownsRow w0.heap.size 9 1 v' (wds.length + 1) (strs wds ++ [.string wd])) : Row W2 g 175 (heB b v wd cd) ∧ HeI w0 g b (wds ++ [wd]) wd cd (W2.setCell ⟨g, 1, none⟩ v') := by
  have hnr := not_row h1 h3
  have hne : some g ≠ v.ownBlock := by
    rcases hnr with e | e
    · rw [e]; exact fun e => by cases e
    · exact fun e2 => e e2.symm
  have hbne : some b ≠ v.ownBlock := by
    intro e
    rcases h3.2 with ⟨e1, _⟩ | ⟨k, cap, cur, e1, _, e3, _⟩
    · rw [e1] at e; cases e
    · rw [e1] at e
      have e2 : b = k := by simpa [Value.ownBlock] using e
      subst e2
      obtain ⟨es, clock, m1, _⟩ := h2
      rw [e3] at m1; cases m1
  have k1 : Row W2 g 175 (heB b v wd cd) := (h1.alloc o).grown hgr hne
  have k2 := (h2.alloc o).kept hgr hbne
  have k4 : Below w0.heap.size w0 W2 := (h4.alloc h4.size o).grown hgr (by have := h4.size; simp; omega) (fun k hk => (h3.lt k hk).1)
  have hgr2 : W2.grownBy (W2.setCell ⟨g, 1, none⟩ v') (some g) := ⟨rfl, rfl, rfl, by simp, fun k _ hk => heap_setCell_other _ _ _ _ (fun e => hk (by rw [e]))⟩
  refine ⟨k1, hg, v', k1.set 1 v', k2.kept hgr2 (fun e => not_map k1 k2 (Option.some.inj e)), ?_, k4.setCell (by simpa using hg) _⟩
  have hl : (wds ++ [wd]).length = wds.length + 1 := by simp
  rw [hl, show strs (wds ++ [wd]) = strs wds ++ [.string wd] by simp [strs]]
  exact ho.kept hgr2 (not_row k1 ho)
theorem HeI.gen {p : World → Prop} {w0 W : World} {g b : Nat} {wds : List ByteArray} {wd cd : ByteArray} (h : HeI w0 g b wds wd cd W) (k : ∀ W, HeI w0 g b wds wd cd W → p W) : p W := k W h
theorem lettB_size {b : Nat} {W : World} (h : W.ownsMap Tryz.prog 9 (plainElem Tryz.prog 9) b 26 (LD 26)) (cd : ByteArray) (hc : cd.size ≤ 100000) : (lettB cd).size ≤ 1 := by
  obtain ⟨s, ok, _, hl, hs, _⟩ := look_any h cd hc
  rw [hl]; split
  · exact hs
  · exact Nat.le_refl 1
theorem lettI_size {w0 : World} {g b : Nat} {wds : List ByteArray} {wd cd : ByteArray} {W : World} (hI : HeI w0 g b wds wd cd W) (hc : cd.size ≤ 100000) : (lettI wd cd).size ≤ wd.size + 1 := by
  obtain ⟨_, v, _, h2, _, _⟩ := hI
  have := lettB_size h2 cd hc
  unfold lettI; split
  · omega
  · rw [ByteArray.size_append]; omega
set_option maxRecDepth 100000 in
set_option maxHeartbeats 1000000 in
theorem endWord_any (w0 : World) (g b : Nat) (wds : List ByteArray) (wd cd : ByteArray) (w : World) (hI : HeI w0 g b wds wd cd w) (hc : cd.size ≤ 100000) (hw : wd.size ≤ 100000) (hl : wds.length ≤ 100000) :
    Calls Tryz.prog 93 #[.pointer (some ⟨g, 0, none⟩)] w fun e w' => e = .returned (.tuple #[]) ∧ HeI w0 g b (addW wds (lettI wd cd)) ⟨#[]⟩ ⟨#[]⟩ w' := by
  have HE := Lib.hid (endLetter_any w0 g b wds wd cd w hI hc hw)
  obtain ⟨wd1, hwd1⟩ : ∃ wd1, wd1 = lettI wd cd := ⟨_, rfl⟩
  rw [← hwd1] at HE ⊢
  clear hI hwd1
  cases h : wd1.toList.isEmpty
  · have q1 : ¬ wd1.toList = [] := by intro e; rw [e] at h; cases h
    have q2 : (wd1.toList == []) = false := by simpa using q1
    have HA : Hid (addW wds wd1 = wds ++ [wd1]) := by unfold Hid addW; rw [h]; rfl
    go_enter Tryz.func93, Tryz.ntmps93
    go_wp2_with fail
    refine HE.out.mono ?_
    rintro e w1 ⟨rfl, hg, v, h1, h2, h3, h4⟩
    have c1 : w1.cell? ⟨g, 1, none⟩ = some v := by rw [h1.cell]; rfl
    have c2 : w1.cell? ⟨g, 2, none⟩ = some (.string wd1) := by rw [h1.cell]; rfl
    have f1 := h1.free 1
    have f2 := h1.free 2
    have nn1 := World.new_ne w1 ⟨g, 1, none⟩ c1
    have nn2 := World.new_ne w1 ⟨g, 2, none⟩ c2
    have a1 : ∀ o, (w1.alloc o).cell? ⟨g, 1, none⟩ = some v := fun o => keepC c1 ((Below.refl _ _).alloc (Nat.le_refl _) o)
    have H1 := Lib.hid h1; have H2 := Lib.hid h2; have H3 := Lib.hid h3; have H4 := Lib.hid h4
    clear h1 h2 h3 h4
    go_upto_region 2 with fail
    go_region_law (refine step_app rfl (.tmp 13) (.tmp 18) 78 rfl w0.heap.size 9 (.string ⟨#[]⟩) 1 16 Tryz.underlying78 info9 rfl (by decide) v wds.length (strs wds) rfl (H3.out.alloc _) w1.heap.size 1 1 [.string wd1] rfl 9 (Row.new w1 9 [.string wd1]) rfl (by simp [Value.oneCell']) (by unfold maxLen; omega) (by omega) (by have := H4.out.size; simp; omega) ?_; intro v' w2 ho2 hg2; obtain ⟨gq, cq, rfl⟩ := ownsRow_succA ho2; obtain ⟨k1, HI2⟩ := HeI.app (W := w1.drew) hg H1.out H2.out H3.out H4.out.drew (w0 := w0) (v := v) (o := .cells #[.string wd1] 9) hg2 ho2; have d1 : w2.cell? ⟨g, 1, none⟩ = some v := (by rw [k1.cell]; rfl); have e1 := k1.free 1; have HI2 := Lib.hid HI2; have K1 := Lib.hid k1; clear k1 ho2 hg2)
    all_goals
      refine HI2.out.gen ?_
      clear HI2 H1 H2 H3 H4 nn1 nn2 a1 c1 c2 f1 f2
      rintro w3 ⟨_, v3, m1, m2, m3, m4⟩
      have d2 : w3.cell? ⟨g, 2, none⟩ = some (.string wd1) := by rw [m1.cell]; rfl
      have e2 := m1.free 2
      have HF := Lib.hid (HeI.set (i := 2) (u := .string ⟨#[]⟩) (wd' := ⟨#[]⟩) (cd' := ⟨#[]⟩) hg m1 m2 m3 m4 rfl)
      clear m1 m2 m3 m4
      go_wp2
      go_end0
      exact ⟨rfl, by rw [HA.out]; exact HF.out⟩
  · have q2 : (wd1.toList == []) = true := by have := List.isEmpty_iff.1 h; simpa using this
    have HA : Hid (addW wds wd1 = wds) := by unfold Hid addW; rw [h]; rfl
    have he : wd1 = ⟨#[]⟩ := by
      have := List.isEmpty_iff.1 h
      rw [ByteArray.toList_eq] at this
      exact ByteArray.ext (by simpa using this)
    have HEE := Lib.hid he
    clear he
    go_enter Tryz.func93, Tryz.ntmps93
    go_wp2_with fail
    refine HE.out.mono ?_
    rintro e w1 ⟨rfl, hI1⟩
    have HI1 : Hid (HeI w0 g b wds ⟨#[]⟩ ⟨#[]⟩ w1) := by unfold Hid; rw [HEE.out] at hI1; exact hI1
    obtain ⟨hg, v, h1, h2, h3, h4⟩ := hI1
    have c2 : w1.cell? ⟨g, 2, none⟩ = some (.string wd1) := by rw [h1.cell]; rfl
    clear h1 h2 h3 h4
    go_wp2
    refine bodyPost_ret (results_none rfl _ _ _) rfl ?_
    exact ⟨rfl, by rw [HA.out]; exact HI1.out⟩
end Go.Proofs.YtoclnlimnjnbkaaGreatDoor
namespace Go.Proofs.YtoclnlimnjnbkaaGreatDoor
set_option linter.all false
open Go.RowKit Go.Fl
def bools (bs : List Bool) : List Value := bs.map Value.bool
theorem Rd.bool {w : World} {A : Option Addr} {xs : List Bool} (h : Rd w A (bools xs)) {j : Nat} (hj : j < xs.length) : ∃ b off, A = some ⟨b, off, none⟩ ∧ w.cell? ⟨b, off + j, none⟩ = some (.bool xs[j]) := by
  obtain ⟨b, off, h1, h2⟩ := Rd.at h (j := j) (by simpa [bools] using hj)
  exact ⟨b, off, h1, by rw [h2]; simp [bools]⟩
def gapsGo : List Bool → Nat → List (Int × Int) → List (Int × Int)
  | [], _, sp => sp
  | b :: bs, i, sp => gapsGo bs (i + 1) (if b then sp else widL sp i)
def gapsL (bs : List Bool) : List (Int × Int) := gapsGo bs 0 []
theorem gapsGo_drop {bs : List Bool} {k : Nat} (hk : k < bs.length) (sp : List (Int × Int)) : gapsGo (bs.drop k) k sp = gapsGo (bs.drop (k + 1)) (k + 1) (if bs[k] then sp else widL sp k) := by
  rw [List.drop_eq_getElem_cons hk, gapsGo]
set_option maxHeartbeats 400000 in
theorem not_any (b : Bool) (w : World) : Calls Tryz.prog 82 #[.bool b] w fun e w' => e = .returned (.bool (!b)) ∧ w = w' := by
  go_enter Tryz.func82, Tryz.ntmps82
  go_wp2
  go_ret
  exact ⟨rfl, rfl⟩
set_option maxRecDepth 100000 in
set_option maxHeartbeats 1000000 in
theorem spansWhere_any (A : Option Addr) (n c : Nat) (bs : List Bool) (w : World) (hA : Rd w A (bools bs)) (hn : n = bs.length) (hm : bs.length ≤ 4096) :
    Calls Tryz.prog 81 #[.slice A n c, .func (.func 82) #[] #[]] w fun e w' => ∃ v, e = .returned v ∧ w'.ownsRow w.heap.size 70 2 v (gapsL bs).length (spanC (gapsL bs)) ∧ Below w.heap.size w w' := by
  subst hn
  have HA := Lib.hid hA
  clear hA
  go_enter Tryz.func81, Tryz.ntmps81
  go_wp2
  go_loopw [5, 10] (fun v i wr => ∃ (k : Nat) (sp : List (Int × Int)), k ≤ bs.length ∧ i = .int .i64 k ∧ Hid (sp.length ≤ k) ∧ Hid (gapsGo (bs.drop k) k sp = gapsL bs) ∧ Hid (wr.ownsRow w.heap.size 70 2 v sp.length (spanC sp)) ∧ Hid (Below w.heap.size w wr)) (fun _ i _ => bs.length - (intOf i).toNat)
  case atStart => exact ⟨0, [], Nat.zero_le _, rfl, Nat.le_refl _, rfl, World.ownsRow_nil _ _ _ _, Below.refl _ _⟩
  case round =>
    obtain ⟨k, sp, hk, rfl, Hl, Hg, Ho, Hb⟩ := hrel
    by_cases hlt : k < bs.length
    · obtain ⟨b, off, hAb, hc⟩ := Rd.bool (HA.out.below Hb.out) hlt
      subst hAb
      have hgd := gapsGo_drop hlt sp
      rw [Hg.out] at hgd
      obtain ⟨x, hx⟩ : ∃ x, x = bs[k] := ⟨_, rfl⟩
      rw [← hx] at hc hgd
      have Hgd := Lib.hid hgd
      clear hgd hx
      cases x
      · have hl6 : Hid (sp.length ≤ 1000000) := by unfold Hid; have := Hl.out; omega
        have hi9 : Hid (0 ≤ (k : Int) ∧ (k : Int) ≤ 1000000000) := by unfold Hid; omega
        go_wp2_with (first
          | (go_at_call 82; refine (not_any _ _).mono ?_; rintro e w1 ⟨rfl, rfl⟩)
          | (go_at_call 75; refine (widened_any w.heap.size _ sp (k : Int) _ Ho.out Hb.out.size hl6.out hi9.out).mono ?_; rintro e w2 ⟨v', rfl, ho2, hst2⟩; have Hb2 := Lib.hid (Hb.out.trans (hst2.below Ho.out Hb.out.size)); have Ho2 := Lib.hid ho2; clear ho2 hst2))
        go_roundw
        case rel => exact ⟨k + 1, widL sp k, by omega, by go_num, by have := widL_le sp k; have := Hl.out; show _ ≤ _; omega, by show _ = _; rw [Hgd.out]; rfl, Ho2, Hb2⟩
        case measure => simp [intOf]; omega
      · go_wp2_with (go_at_call 82; refine (not_any _ _).mono ?_; rintro e w1 ⟨rfl, rfl⟩)
        go_roundw
        case rel => exact ⟨k + 1, sp, by omega, by go_num, by have := Hl.out; show _ ≤ _; omega, by show _ = _; rw [Hgd.out]; rfl, Ho, Hb⟩
        case measure => simp [intOf]; omega
    · obtain rfl : k = bs.length := by omega
      have hg : sp = gapsL bs := by have h := Hg.out; rwa [List.drop_of_length_le (Nat.le_refl _)] at h
      have Hgl := Lib.hid hg
      clear hg
      go_wp2
      go_ret
      exact ⟨_, rfl, by rw [← Hgl.out]; exact Ho.out, Hb.out⟩
def absSum : List Int → List Int → Int
  | x :: xs, y :: ys => max (x - y) (y - x) + absSum xs ys
  | _, _ => 0
theorem absSum_take (xs ys : List Int) (k : Nat) (hx : k < xs.length) (hy : k < ys.length) : absSum (xs.take (k + 1)) (ys.take (k + 1)) = absSum (xs.take k) (ys.take k) + max (xs[k] - ys[k]) (ys[k] - xs[k]) := by
  induction xs generalizing ys k with
  | nil => simp at hx
  | cons x xs ih => cases ys with
    | nil => simp at hy
    | cons y ys =>
      cases k with
      | zero => simp [absSum]
      | succ k =>
        have := ih ys k (by simpa using hx) (by simpa using hy)
        simp only [List.take_succ_cons, absSum, List.getElem_cons_succ] at this ⊢
        omega
theorem absSum_bd (xs ys : List Int) (hx : ∀ x ∈ xs, x.natAbs ≤ 65536) (hy : ∀ y ∈ ys, y.natAbs ≤ 65536) : 0 ≤ absSum xs ys ∧ absSum xs ys ≤ 131072 * xs.length := by
  induction xs generalizing ys with
  | nil => cases ys <;> simp [absSum]
  | cons x xs ih => cases ys with
    | nil => simp [absSum]; omega
    | cons y ys =>
      have h1 := ih ys (fun x h => hx x (List.mem_cons_of_mem _ h)) (fun y h => hy y (List.mem_cons_of_mem _ h))
      have h2 := hx x (List.mem_cons_self ..)
      have h3 := hy y (List.mem_cons_self ..)
      simp only [absSum, List.length_cons]
      omega
def difN (xs ys : List Int) : Int := (absSum xs ys).tdiv (gcdI (absSum xs ys) xs.length)
def difD (xs ys : List Int) : Int := (xs.length : Int) / gcdI (absSum xs ys) xs.length
set_option maxRecDepth 100000 in
set_option maxHeartbeats 300000 in
theorem difference_any (A B : Option Addr) (c d : Nat) (xs ys : List Int) (n : Nat) (w : World) (hA : Rd w A (ints xs)) (hB : Rd w B (ints ys)) (hn : n = xs.length) (hl : ys.length = xs.length) (h0 : 0 < xs.length) (h1 : xs.length ≤ 4096) (hx : ∀ x ∈ xs, x.natAbs ≤ 65536) (hy : ∀ y ∈ ys, y.natAbs ≤ 65536) :
    Calls Tryz.prog 100 #[.slice A n c, .slice B n d] w fun e w' => e = .returned (.agg #[.int .i64 (difN xs ys), .int .i64 (difD xs ys)]) ∧ Below w.heap.size w w' := by
  subst hn
  have HL := Lib.hid hl; have HX := Lib.hid hx; have HY := Lib.hid hy
  have HA : Hid (∀ W, Below w.heap.size w W → Rd W A (ints xs)) := fun W h => hA.below h
  have HB : Hid (∀ W, Below w.heap.size w W → Rd W B (ints ys)) := fun W h => hB.below h
  clear hl hx hy hA hB
  go_enter Tryz.func100, Tryz.ntmps100
  go_upto_region 1 with fail
  refine genF w.heap.size 110 [.int .i64 0, .int .i64 0] (Row.new w 110 [.int .i64 0, .int .i64 0]) ((Below.refl w.heap.size w).alloc (Nat.le_refl _) _) ?_
  intro W R0 RB
  have HR := Lib.hid R0; have HRB := Lib.hid RB
  clear R0 RB
  go_wp2
  go_loopw [5, 9] (fun s i wr => ∃ k : Nat, k ≤ xs.length ∧ i = .int .i64 k ∧ s = .int .i64 (absSum (xs.take k) (ys.take k)) ∧ ∃ q, wr = W.drewN q) (fun _ i _ => xs.length - (intOf i).toNat)
  case atStart => exact ⟨0, Nat.zero_le _, rfl, by simp [absSum], 0, rfl⟩
  case round =>
    obtain ⟨k, hk, rfl, rfl, q, rfl⟩ := hrel
    by_cases hlt : k < xs.length
    · have hlt2 : k < ys.length := by rw [HL.out]; exact hlt
      obtain ⟨b, off, hAb, hc1⟩ := Rd.int (HA.out _ HRB.out) hlt
      obtain ⟨b', off', hBb, hc2⟩ := Rd.int (HB.out _ HRB.out) hlt2
      subst hAb; subst hBb
      have hs := absSum_take xs ys k hlt hlt2
      have hb := absSum_bd (xs.take k) (ys.take k) (fun x h => HX.out x (List.mem_of_mem_take h)) (fun x h => HY.out x (List.mem_of_mem_take h))
      rw [List.length_take] at hb
      have hx1 := HX.out _ (List.getElem_mem hlt)
      have hy1 := HY.out _ (List.getElem_mem hlt2)
      obtain ⟨x, hxx⟩ : ∃ x, x = xs[k] := ⟨_, rfl⟩
      obtain ⟨y, hyy⟩ : ∃ y, y = ys[k] := ⟨_, rfl⟩
      obtain ⟨sm, hsm⟩ : ∃ sm, sm = absSum (xs.take k) (ys.take k) := ⟨_, rfl⟩
      rw [← hxx] at hc1 hs hx1; rw [← hyy] at hc2 hs hy1; rw [← hsm] at hs hb ⊢
      have e1 : IntKind.i64.wrap (x - y) = x - y := IntWalk.i64_in _ (by omega)
      have e2 : IntKind.i64.wrap (y - x) = y - x := IntWalk.i64_in _ (by omega)
      have e3 : wrap64 (sm + max (x - y) (y - x)) = sm + max (x - y) (y - x) := by unfold wrap64; omega
      have e4 : (if x - y < y - x then y - x else x - y) = max (x - y) (y - x) := by rw [Int.max_def]; split <;> split <;> omega
      have E3 := Lib.hid e3; have E4 := Lib.hid e4
      clear e3 e4
      have i1 : (k : Int) < (xs.length : Int) := by omega
      have i2 : (k : Int) < (ys.length : Int) := by omega
      have Hs := Lib.hid hs
      clear hs hb hx1 hy1 hxx hyy hsm
      go_wp2
      go_quiet (fail)
      go_wp2
      go_roundw
      case rel => exact ⟨k + 1, by omega, by go_num, by first | (rw [Hs.out, E4.out]; exact congrArg _ E3.out) | (rw [Hs.out]; exact congrArg _ E3.out), _, rfl⟩
      case measure => simp [intOf]; omega
    · obtain rfl : k = xs.length := by omega
      have hb := absSum_bd xs ys HX.out HY.out
      have hs : absSum (xs.take xs.length) (ys.take xs.length) = absSum xs ys := by rw [List.take_length, ← HL.out, List.take_length]
      rw [hs]
      obtain ⟨sm, hsm⟩ : ∃ sm, sm = absSum xs ys := ⟨_, rfl⟩
      rw [← hsm] at hb ⊢
      have Hsm := Lib.hid hsm
      clear hs hsm
      have Hbd : Hid (Bd sm ∧ 0 < (xs.length : Int) ∧ (xs.length : Int) ≤ 9223372036854775807) := by unfold Hid Bd; omega
      have hdn : difN xs ys = sm.tdiv (gcdI sm xs.length) := by rw [difN, Hsm.out]
      have hdd : difD xs ys = (xs.length : Int) / gcdI sm xs.length := by rw [difD, Hsm.out]
      obtain ⟨dn, hdn2⟩ : ∃ dn, dn = sm.tdiv (gcdI sm xs.length) := ⟨_, rfl⟩
      obtain ⟨dd, hdd2⟩ : ∃ dd, dd = (xs.length : Int) / gcdI sm xs.length := ⟨_, rfl⟩
      have HC : Hid (∀ W, Calls Tryz.prog 137 #[.int .i64 sm, .int .i64 (xs.length : Int)] W fun e w' => e = .returned (.agg #[.int .i64 dn, .int .i64 dd]) ∧ Below W.heap.size W w') := fun W => by
        have h := ratio_any sm xs.length W Hbd.out.1 Hbd.out.2
        rw [← hdn2, ← hdd2] at h; exact h
      rw [← hdn2] at hdn; rw [← hdd2] at hdd
      have Hdn := Lib.hid hdn; have Hdd := Lib.hid hdd
      clear hdn hdd hdn2 hdd2 hb
      go_wp2_with fail
      refine (HC.out _).mono ?_
      rintro e w2 ⟨rfl, hb2⟩
      have HR2 : Hid (Row w2 w.heap.size 110 [.int .i64 0, .int .i64 0]) := Row.old (w := W.drewN q) HR.out hb2
      have HB2 : Hid (Below w.heap.size w w2) := (below_drewN HRB.out q).trans (hb2.mono HRB.out.size)
      clear hb2
      go_wp2_with (refine wpList_store_row rfl 110 _ _ rfl w.heap.size #[.int .i64 dn, .int .i64 dd] rfl rfl 110 _ HR2.out ?_ ?_ ?_ ?_; (kernel_rfl); (rfl); (simp [Value.oneCell']))
      refine bodyPost_ret (results_row1 rfl _ _ w.heap.size 110 #[.int .i64 dn, .int .i64 dd] (0, 0) _ rfl (HR2.out.setRow [.int .i64 dn, .int .i64 dd]) Tryz.underlying110 rfl (by kernel_rfl)) rfl ⟨by rw [Hdn.out, Hdd.out], ?_⟩
      exact Below.setRow HB2.out (Nat.le_refl _) _
theorem results_tct {P : Program} {fn : Func} {p t1 t2 : Tmp} {ty : TypeId} (h : fn.results = #[.tmp t1, .cell p ty, .tmp t2]) (tmps : Array Value) (w : World) (g : Nat) (e : TypeId) (cs : Array Value) (fr : Nat × Nat) (d : TypeDesc)
    (hp : tmps.getD p undef = .pointer (some ⟨g, 0, none⟩)) (hg : w.heap[g]? = some (.cells cs e fr))
    (hu : P.underlying ty = some d) (hd : (match d with | .struct _ | .array _ _ => true | _ => false) = true) (hi : (P.info? ty).map (·.size) = some cs.size) :
    (results fn tmps).run P w = .ok (.tuple #[tmps.getD t1 undef, .agg cs, tmps.getD t2 undef]) w := by
  have hp' : tmps[p]?.getD undef = .pointer (some ⟨g, 0, none⟩) := by simpa using hp
  simp [results, h, hp', asAddr, run_loadVar_row w g e ty cs fr d hg hu hd hi]
def alGo (x y : List Int) (least : Int) : Nat → Int → Int × Int × Int → Int × Int × Int
  | 0, _, b => b
  | g + 1, s, b =>
    if min (x.length : Int) (y.length - s) - max 0 (-s) < least then alGo x y least g (s + 1) b
    else
      let n := (min (x.length : Int) (y.length - s) - max 0 (-s)).toNat
      let X := (x.drop (max 0 (-s)).toNat).take n
      let Y := (y.drop (max 0 (-s) + s).toNat).take n
      let b' := if b.2.1 = 0 ∨ difN X Y * b.2.1 < b.1 * difD X Y then (difN X Y, difD X Y, s) else b
      if b'.1 = 0 then b' else alGo x y least g (s + 1) b'
def alignL (x y : List Int) (reach least : Int) : Int × Int × Int := alGo x y least (2 * reach + 1).toNat (-reach) (0, 0, 0)
def alRes (r : Int × Int × Int) : Array Value := if r.2.1 = 0 then #[.int .i64 0, .agg #[.int .i64 0, .int .i64 0], .int .i64 16] else #[.int .i64 r.2.2, .agg #[.int .i64 r.1, .int .i64 r.2.1], .int .i64 0]
theorem dif_bd (xs ys : List Int) (h0 : 0 < xs.length) (h1 : xs.length ≤ 4096) (hx : ∀ x ∈ xs, x.natAbs ≤ 65536) (hy : ∀ y ∈ ys, y.natAbs ≤ 65536) : (0 ≤ difN xs ys ∧ difN xs ys ≤ 536870912) ∧ 1 ≤ difD xs ys ∧ difD xs ys ≤ 4096 := by
  have hb := absSum_bd xs ys hx hy
  have hg : 0 < gcdI (absSum xs ys) xs.length := by
    unfold gcdI
    have := Int.gcd_pos_of_ne_zero_right (absSum xs ys) (b := (xs.length : Int)) (by omega)
    omega
  have hd : gcdI (absSum xs ys) xs.length ∣ (xs.length : Int) := Int.gcd_dvd_right ..
  unfold difN difD
  refine ⟨⟨Int.tdiv_nonneg hb.1 (by omega), ?_⟩, ?_, ?_⟩
  · rw [Int.tdiv_eq_ediv_of_nonneg hb.1]
    have := Int.ediv_le_self (gcdI (absSum xs ys) xs.length) hb.1
    omega
  · have := Int.le_of_dvd (by omega) hd
    exact (Int.le_ediv_iff_mul_le hg).2 (by omega)
  · have := Int.ediv_le_self (a := (xs.length : Int)) (gcdI (absSum xs ys) xs.length) (by omega)
    omega
theorem alGo_short (x y : List Int) (least : Int) (g : Nat) (s : Int) (b : Int × Int × Int) (h : min (x.length : Int) (y.length - s) - max 0 (-s) < least) : alGo x y least (g + 1) s b = alGo x y least g (s + 1) b := by rw [alGo, if_pos h]
theorem alGo_long (x y : List Int) (least : Int) (g : Nat) (s : Int) (b : Int × Int × Int) (f t f2 : Nat) (hf : max 0 (-s) = f) (ht : min (x.length : Int) (y.length - s) = t) (hf2 : (f : Int) + s = f2) (h : ¬ ((t : Int) - f < least)) :
    alGo x y least (g + 1) s b = (let b' := if b.2.1 = 0 ∨ difN ((x.drop f).take (t - f)) ((y.drop f2).take (t - f)) * b.2.1 < b.1 * difD ((x.drop f).take (t - f)) ((y.drop f2).take (t - f)) then (difN ((x.drop f).take (t - f)) ((y.drop f2).take (t - f)), difD ((x.drop f).take (t - f)) ((y.drop f2).take (t - f)), s) else b
      if b'.1 = 0 then b' else alGo x y least g (s + 1) b') := by
  rw [alGo, hf, ht, if_neg h, hf2]
  have e : ((t : Int) - (f : Int)).toNat = t - f := by omega
  rw [e, Int.toNat_natCast, Int.toNat_natCast]
set_option maxRecDepth 100000 in
set_option maxHeartbeats 3000000 in
theorem aligned_any (A B : Option Addr) (c d : Nat) (xs ys : List Nat) (n m : Nat) (reach least : Int) (w : World) (hA : Rd w A (flts xs)) (hB : Rd w B (flts ys)) (hn : n = xs.length) (hm : m = ys.length) (hx : xs.length ≤ 4096) (hy : ys.length ≤ 4096) (hsx : sampsI xs = 0) (hsy : sampsI ys = 0) (hvx : ∀ x ∈ xs, sampI x = 0) (hvy : ∀ y ∈ ys, sampI y = 0) (hr : 0 ≤ reach ∧ reach ≤ 256) (hl : 1 ≤ least ∧ least ≤ 4096) :
    Calls Tryz.prog 40 #[.slice A n c, .slice B m d, .int .i64 reach, .int .i64 least] w fun e w' => e = .returned (.tuple (alRes (alignL (xs.map unitI) (ys.map unitI) reach least))) ∧ Below w.heap.size w w' := by
  subst hn; subst hm
  have HA : Hid (∀ W, Below w.heap.size w W → Rd W A (flts xs)) := fun W h => hA.below h
  have HB : Hid (∀ W, Below w.heap.size w W → Rd W B (flts ys)) := fun W h => hB.below h
  have HSX := Lib.hid hsx; have HSY := Lib.hid hsy; have HVX := Lib.hid hvx; have HVY := Lib.hid hvy
  have HZ1 : Hid (whenI (rangeB reach 0 256) 3 = 0) := by unfold Hid whenI rangeB; simp; omega
  have HZ2 : Hid (whenI (rangeB least 1 4096) 3 = 0) := by unfold Hid whenI rangeB; simp; omega
  clear hA hB hsx hsy hvx hvy
  go_enter Tryz.func40, Tryz.ntmps40
  go_wp2
  refine genF w.heap.size 110 [.int .i64 0, .int .i64 0] (Row.new w 110 [.int .i64 0, .int .i64 0]) ((Below.refl w.heap.size w).alloc (Nat.le_refl _) _) ?_
  intro W R0 RB
  have HR := Lib.hid R0; have HRB := Lib.hid RB
  clear R0 RB
  go_step3
  go_wp2_with (first
    | (go_at_call 87; refine Calls.mono (checkSamples_any _ _ _ ?_ _ ?_ ?_) ?_; rotate_left; (first | exact HA.out _ HRB.out | exact HB.out _ HB1.out); rfl; rintro e w1 ⟨rfl, hb1⟩; (first | have HB1 := Lib.hid (HB1.out.trans (hb1.mono HB1.out.size)) | have HB1 := Lib.hid (HRB.out.trans (hb1.mono HRB.out.size))); (first | have HR1 := Lib.hid (HR1.out.old hb1) | have HR1 := Lib.hid (HR.out.old hb1)); (first | rw [HSX.out] | rw [HSY.out]); clear hb1)
    | (go_at_call 78; refine (between_any _ _ _ _).mono ?_; rintro e w3 ⟨rfl, rfl⟩; (first | rw [HZ1.out] | rw [HZ2.out]))
    | (go_at_call 76; refine (firstV_any _ _ _ [0, 0, 0, 0] _ ?_ rfl (by simp)).mono ?_; exact Rd.new _ _ _ _ (by simp); rintro e w3 ⟨rfl, rfl⟩))
  have hb1 := HB1.out.alloc HB1.out.size (.cells #[.int .i64 0, .int .i64 0, .int .i64 0, .int .i64 0] 28)
  refine (mappedUnit_any A _ _ xs _ (HA.out _ hb1) rfl (by omega) HVX.out).mono ?_
  rintro e w4 ⟨gx, rfl, hrx, hgx, hb4⟩
  have HB4 := Lib.hid (hb1.trans (hb4.mono hb1.size))
  have HR4 := Lib.hid ((HR1.out.alloc _).old hb4)
  have HX4 := Lib.hid hrx
  clear hb1 hrx hgx hb4
  go_wp2_with fail
  refine (mappedUnit_any B _ _ ys _ (HB.out _ HB4.out) rfl (by omega) HVY.out).mono ?_
  rintro e w5 ⟨gy, rfl, hry, hgy, hb5⟩
  have HB5 := Lib.hid (HB4.out.trans (hb5.mono HB4.out.size))
  have HR5 := Lib.hid (HR4.out.old hb5)
  have HX5 := Lib.hid (HX4.out.old hb5)
  have HY5 := Lib.hid hry
  clear hry hgy hb5 HB4 HR4 HX4 HB1 HR1
  go_wp2
  go_step3
  have hneg : IntKind.i64.wrap (-reach) = -reach := IntWalk.i64_in _ (by omega)
  go_upto_region 6 with fail
  have r6 : Row (w5.alloc (.cells #[.int .i64 0, .int .i64 0] 110)) w5.heap.size 110 [.int .i64 0, .int .i64 0] := Row.new w5 _ [.int .i64 0, .int .i64 0]
  refine genF w5.heap.size 110 [.int .i64 0, .int .i64 0] r6 ((Below.refl w5.heap.size w5).alloc (Nat.le_refl _) _) ?_
  clear r6
  intro w6 r6 b6
  have R6 := Lib.hid r6; have B6 := Lib.hid b6
  clear r6 b6
  go_wp2
  obtain ⟨X, hX⟩ : ∃ X, X = xs.map unitI := ⟨_, rfl⟩
  obtain ⟨Y, hY⟩ : ∃ Y, Y = ys.map unitI := ⟨_, rfl⟩
  have HXL : Hid (X.length = xs.length ∧ Y.length = ys.length) := by rw [hX, hY]; exact ⟨List.length_map _, List.length_map _⟩
  have HXB : Hid (∀ x ∈ X, x.natAbs ≤ 65536) := by
    rw [hX]; intro x hx; obtain ⟨v, hv, rfl⟩ := List.mem_map.1 hx; have := unitI_bd (HVX.out v hv); omega
  have HYB : Hid (∀ y ∈ Y, y.natAbs ≤ 65536) := by
    rw [hY]; intro x hx; obtain ⟨v, hv, rfl⟩ := List.mem_map.1 hx; have := unitI_bd (HVY.out v hv); omega
  have HX5 : Hid (Row w5 gx 3 (ints X)) := by rw [hX]; exact HX5.out
  have HY5 : Hid (Row w5 gy 3 (ints Y)) := by rw [hY]; exact HY5.out
  have HAL : Hid (alignL (xs.map unitI) (ys.map unitI) reach least = alignL X Y reach least) := by unfold Hid; rw [hX, hY]
  clear hX hY HA HB HSX HSY HVX HVY HZ1 HZ2
  go_loopg [15, 16] (2 * reach + 1).toNat (fun g sh s wr => ∃ (s' : Int) (b0 b1 b2 : Int), s = .int .i64 s' ∧ sh = .int .i64 b2 ∧ -reach ≤ s' ∧ s' ≤ reach + 1 ∧ g = (reach - s' + 1).toNat ∧ Hid (alGo X Y least g s' (b0, b1, b2) = alignL X Y reach least) ∧ Hid (0 ≤ b0 ∧ b0 ≤ 536870912 ∧ 0 ≤ b1 ∧ b1 ≤ 4096) ∧ Hid (Row wr w5.heap.size 110 [.int .i64 b0, .int .i64 b1]) ∧ Hid (Below w5.heap.size w5 wr))
  case atStart => exact ⟨-reach, 0, 0, 0, rfl, rfl, by omega, by omega, by omega, rfl, ⟨by decide, by decide, by decide, by decide⟩, R6, B6⟩
  case round =>
    obtain ⟨s, b0, b1, b2, rfl, rfl, hs1, hs2, hg, HG, Hb, HRb, HBw⟩ := hrel
    by_cases hlt : s ≤ reach
    · have hX := HXL.out.1; have hY := HXL.out.2
      obtain ⟨k, hk⟩ : ∃ k, (reach - s + 1).toNat = k + 1 := ⟨(reach - s).toNat, by omega⟩
      subst hg
      rw [hk] at HG
      have hk1 : k = (reach - (s + 1) + 1).toNat := by omega
      obtain ⟨f, hf⟩ : ∃ f : Nat, max 0 (-s) = (f : Int) := ⟨(max 0 (-s)).toNat, by omega⟩
      obtain ⟨tt, ht⟩ : ∃ tt, tt = min (X.length : Int) (Y.length - s) := ⟨_, rfl⟩
      have e1 : IntKind.i64.wrap (-s) = -s := IntWalk.i64_in _ (by omega)
      have e2 : IntKind.i64.wrap ((ys.length : Int) - s) = (ys.length : Int) - s := IntWalk.i64_in _ (by omega)
      have e3 : IntKind.i64.wrap (tt - f) = tt - f := IntWalk.i64_in _ (by omega)
      have e4 : wrap64 (s + 1) = s + 1 := by unfold wrap64; omega
      have hfr : (if s < 0 then -s else 0) = (f : Int) := by split <;> omega
      have hfr2 : (if 0 < -s then -s else 0) = (f : Int) := by split <;> omega
      have hto : (if (ys.length : Int) - s < xs.length then (ys.length : Int) - s else xs.length) = tt := by split <;> omega
      have HTT := Lib.hid ht; have HF := Lib.hid hf; have HK1 := Lib.hid hk1
      clear ht hf hk1
      cases hlt2 : decide (tt - f < least)
      · have hge : least ≤ tt - f := by have := of_decide_eq_false hlt2; omega
        have ht := HTT.out; have hf := HF.out
        obtain ⟨t, htt⟩ : ∃ t : Nat, tt = (t : Int) := ⟨tt.toNat, by omega⟩
        subst htt
        obtain ⟨f2, hf2⟩ : ∃ f2 : Nat, (f : Int) + s = (f2 : Int) := ⟨((f : Int) + s).toNat, by omega⟩
        obtain ⟨t2, ht2⟩ : ∃ t2 : Nat, (t : Int) + s = (t2 : Int) := ⟨((t : Int) + s).toNat, by omega⟩
        have hfs : IntKind.i64.wrap ((f : Int) + s) = (f2 : Int) := by rw [hf2]; exact IntWalk.i64_in _ (by omega)
        have hts : IntKind.i64.wrap ((t : Int) + s) = (t2 : Int) := by rw [ht2]; exact IntWalk.i64_in _ (by omega)
        obtain ⟨A1, hsl1, hR1, -⟩ := slice_mid (P := Tryz.prog) 92 (by kernel_rfl) (fun _ => by kernel_rfl) (some ⟨gx, 0, none⟩) xs.length xs.length f t (by omega) (by omega) (Nat.le_refl _) (fun h => by cases h)
        obtain ⟨A2, hsl2, hR2, -⟩ := slice_mid (P := Tryz.prog) 92 (by kernel_rfl) (fun _ => by kernel_rfl) (some ⟨gy, 0, none⟩) ys.length ys.length f2 t2 (by omega) (by omega) (Nat.le_refl _) (fun h => by cases h)
        have hn : t2 - f2 = t - f := by omega
        rw [hn] at hR2
        simp only [hn] at hsl2
        have hlX : ((X.drop f).take (t - f)).length = t - f := by rw [List.length_take, List.length_drop]; omega
        have hlY : ((Y.drop f2).take (t - f)).length = t - f := by rw [List.length_take, List.length_drop]; omega
        have hbX : ∀ x ∈ (X.drop f).take (t - f), x.natAbs ≤ 65536 := fun x h => HXB.out x (List.mem_of_mem_drop (List.mem_of_mem_take h))
        have hbY : ∀ y ∈ (Y.drop f2).take (t - f), y.natAbs ≤ 65536 := fun y h => HYB.out y (List.mem_of_mem_drop (List.mem_of_mem_take h))
        have hdb := dif_bd _ ((Y.drop f2).take (t - f)) (by rw [hlX]; omega) (by rw [hlX]; omega) hbX hbY
        have hgl := alGo_long X Y least k s (b0, b1, b2) f t f2 hf ht.symm hf2 (of_decide_eq_false hlt2)
        have HD : Hid (∀ W, Below w5.heap.size w5 W → Calls Tryz.prog 100 #[.slice A1 (t - f) (xs.length - f), .slice A2 (t - f) (ys.length - f2)] W fun e w' => e = .returned (.agg #[.int .i64 (difN ((X.drop f).take (t - f)) ((Y.drop f2).take (t - f))), .int .i64 (difD ((X.drop f).take (t - f)) ((Y.drop f2).take (t - f)))]) ∧ Below W.heap.size W w') := fun W hW =>
          difference_any A1 A2 _ _ ((X.drop f).take (t - f)) ((Y.drop f2).take (t - f)) (t - f) W
            (by have h := hR1 W (ints X) (Rd.row (HX5.out.old hW)); simpa only [ints, List.map_drop, List.map_take] using h)
            (by have h := hR2 W (ints Y) (Rd.row (HY5.out.old hW)); simpa only [ints, List.map_drop, List.map_take] using h)
            hlX.symm (by rw [hlX, hlY]) (by rw [hlX]; omega) (by rw [hlX]; omega) hbX hbY
        obtain ⟨dn, hdn⟩ : ∃ dn, dn = difN ((X.drop f).take (t - f)) ((Y.drop f2).take (t - f)) := ⟨_, rfl⟩
        obtain ⟨dd, hdd⟩ : ∃ dd, dd = difD ((X.drop f).take (t - f)) ((Y.drop f2).take (t - f)) := ⟨_, rfl⟩
        simp only [← hdn, ← hdd] at HD hgl hdb
        have Hgl := Lib.hid hgl; have Hdb := Lib.hid hdb; have He4 := Lib.hid e4
        clear hgl hdb hdn hdd hlX hlY hbX hbY hR1 hR2 hf2 ht2 hf ht hX hY HTT
        go_wp2
        go_cut [19] (fun s19 wx => ∃ g : Nat, s19 = .pointer (some ⟨g, 0, none⟩) ∧ Row wx g 110 [.int .i64 dn, .int .i64 dd] ∧ wr.heap.size ≤ g ∧ Below wr.heap.size wr wx)
        case first =>
          refine wp_region_held_drew (S := fun w' => Below wr.heap.size wr w') (by kernel_rfl) ?_ (fun hHeld => ?_)
          · exact (Below.refl _ _).drew
          refine wpAnyH_take (i := 0) (oi := ⟨some 61, _, _, _, _, _⟩) (v := ?_) rfl (by kernel_rfl) (by kernel_rfl) (by kernel_rfl) (fun _ _ _ h => h) (Or.inl ⟨by kernel_rfl, ?_⟩) hHeld ?_
          rotate_left
          · intro w1 hSw; (try dsimp only at hSw); go_simp <;> with_reducible rfl
          try simp only [Act.put, List.setIfInBounds_toArray, List.set_cons_zero, List.set_cons_succ]
          refine wpAnyH_take (i := 1) (oi := ⟨some 62, _, _, _, _, _⟩) (v := ?_) rfl (by kernel_rfl) (by kernel_rfl) (by kernel_rfl) (fun _ _ _ h => h) (Or.inl ⟨by kernel_rfl, ?_⟩) hHeld ?_
          rotate_left
          · intro w1 hSw; (try dsimp only at hSw); go_simp <;> with_reducible rfl
          try simp only [Act.put, List.setIfInBounds_toArray, List.set_cons_zero, List.set_cons_succ]
          refine wpAnyH_take (i := 2) (oi := ⟨some 63, _, _, _, _, _⟩) (v := ?_) rfl (by kernel_rfl) (by kernel_rfl) (by kernel_rfl) (fun _ _ _ h => h) (Or.inl ⟨by kernel_rfl, ?_⟩) hHeld ?_
          rotate_left
          · intro w1 hSw; (try dsimp only at hSw); go_simp <;> with_reducible rfl
          try simp only [Act.put, List.setIfInBounds_toArray, List.set_cons_zero, List.set_cons_succ]
          refine wpAnyH_take (i := 3) (oi := ⟨some 64, _, _, _, _, _⟩) (v := ?_) rfl (by kernel_rfl) (by kernel_rfl) (by kernel_rfl) (fun _ _ _ h => h) (Or.inl ⟨by kernel_rfl, ?_⟩) hHeld ?_
          rotate_left
          · intro w1 hSw; (try dsimp only at hSw); go_simp <;> with_reducible rfl
          try simp only [Act.put, List.setIfInBounds_toArray, List.set_cons_zero, List.set_cons_succ]
          refine wpAnyH_take (i := 4) (oi := ⟨some 65, _, _, _, _, _⟩) (v := ?_) rfl (by kernel_rfl) (by kernel_rfl) (by kernel_rfl) (fun _ _ _ h => h) (Or.inl ⟨by kernel_rfl, ?_⟩) hHeld ?_
          rotate_left
          · intro w1 hSw; (try dsimp only at hSw); go_simp <;> with_reducible rfl
          try simp only [Act.put, List.setIfInBounds_toArray, List.set_cons_zero, List.set_cons_succ]
          refine wpAnyH_take (i := 5) (oi := ⟨some 66, _, _, _, _, _⟩) (v := ?_) rfl (by kernel_rfl) (by kernel_rfl) (by kernel_rfl) (fun _ _ _ h => h) (Or.inl ⟨by kernel_rfl, ?_⟩) hHeld ?_
          rotate_left
          · intro w1 hSw; (try dsimp only at hSw); go_simp <;> with_reducible rfl
          try simp only [Act.put, List.setIfInBounds_toArray, List.set_cons_zero, List.set_cons_succ]
          refine wpAnyH_take (i := 6) (oi := ⟨some 67, _, _, _, _, _⟩) (v := ?_) rfl (by kernel_rfl) (by kernel_rfl) (by kernel_rfl) (fun _ _ _ h => h) (Or.inl ⟨by kernel_rfl, ?_⟩) hHeld ?_
          rotate_left
          · intro w1 hSw; (try dsimp only at hSw); go_simp <;> with_reducible rfl
          try simp only [Act.put, List.setIfInBounds_toArray, List.set_cons_zero, List.set_cons_succ]
          refine wpAnyH_take (i := 7) (oi := ⟨some 68, _, _, _, _, _⟩) (v := ?_) rfl (by kernel_rfl) (by kernel_rfl) (by kernel_rfl) (fun _ _ _ h => h) (Or.inl ⟨by kernel_rfl, ?_⟩) hHeld ?_
          rotate_left
          · intro w1 hSw; (try dsimp only at hSw); go_simp <;> with_reducible rfl
          try simp only [Act.put, List.setIfInBounds_toArray, List.set_cons_zero, List.set_cons_succ]
          refine wpAnyH_take (i := 8) (oi := ⟨some 69, _, _, _, _, _⟩) (v := ?_) rfl (by kernel_rfl) (by kernel_rfl) (by kernel_rfl) (fun _ _ _ h => h) (Or.inl ⟨by kernel_rfl, ?_⟩) hHeld ?_
          rotate_left
          · intro w1 hSw; (try dsimp only at hSw); go_simp <;> with_reducible rfl
          try simp only [Act.put, List.setIfInBounds_toArray, List.set_cons_zero, List.set_cons_succ]
          refine wpAnyH_take (i := 9) (oi := ⟨some 70, _, _, _, _, _⟩) (v := ?_) rfl (by kernel_rfl) (by kernel_rfl) (by kernel_rfl) (fun _ _ _ h => h) (Or.inl ⟨by kernel_rfl, ?_⟩) hHeld ?_
          rotate_left
          · intro w1 hSw; (try dsimp only at hSw); go_simp <;> with_reducible rfl
          try simp only [Act.put, List.setIfInBounds_toArray, List.set_cons_zero, List.set_cons_succ]
          refine wpAnyH_take (i := 10) (oi := ⟨some 71, _, _, _, _, _⟩) (v := ?_) rfl (by kernel_rfl) (by kernel_rfl) (by kernel_rfl) (fun _ _ _ h => h) (Or.inl ⟨by kernel_rfl, ?_⟩) hHeld ?_
          rotate_left
          · intro w1 hSw; (try dsimp only at hSw); go_simp <;> with_reducible rfl
          try simp only [Act.put, List.setIfInBounds_toArray, List.set_cons_zero, List.set_cons_succ]
          refine wpAnyH_take (i := 11) (oi := ⟨some 72, _, _, _, _, _⟩) (v := ?_) rfl (by kernel_rfl) (by kernel_rfl) (by kernel_rfl) (fun _ _ _ h => h) (Or.inl ⟨by kernel_rfl, ?_⟩) hHeld ?_
          rotate_left
          · intro w1 hSw; (try dsimp only at hSw); go_simp <;> with_reducible rfl
          try simp only [Act.put, List.setIfInBounds_toArray, List.set_cons_zero, List.set_cons_succ]
          refine wpAnyH_ready (rs := [12, 13]) (by kernel_rfl) (by simp) ?_
          refine AllReadyH.cons rfl (fun K hK => ?_) (AllReadyH.cons rfl (fun K hK => ?_) (AllReadyH.nil))
          ·
            go_simp
            go_at_call 100
            refine (HD.out _ (HBw.out.trans (hHeld.mono HBw.out.size))).mono ?_
            rintro e w2 ⟨rfl, hb2⟩
            try go_simp
            refine hK.out _ _ ?_ (fun hHeld => ?_)
            · exact hHeld.trans (hb2.mono hHeld.size)
            clear hK K
            try simp only [Act.put, List.setIfInBounds_toArray, List.set_cons_zero, List.set_cons_succ]
            refine wpAnyH_ready (rs := [13]) (by kernel_rfl) (by simp) ?_
            refine AllReadyH.cons rfl (fun K hK => ?_) (AllReadyH.nil)
            go_simp
            refine hK.out _ _ ?_ (fun hHeld => ?_)
            · exact hHeld.alloc hHeld.size _
            clear hK K
            try simp only [Act.put, List.setIfInBounds_toArray, List.set_cons_zero, List.set_cons_succ]
            refine wpAnyH_ready (rs := [14]) (by kernel_rfl) (by simp) ?_
            refine AllReadyH.cons rfl (fun K hK => ?_) (AllReadyH.nil)
            have zb := (Below.refl _ wr).drew.trans hb2
            have hz := Row.new w2 110 [.int .i64 0, .int .i64 0]
            refine step_store_row rfl 110 _ _ rfl w2.heap.size [.int .i64 dn, .int .i64 dd] rfl rfl 110 [.int .i64 0, .int .i64 0] hz (by kernel_rfl) rfl (by simp [Value.oneCell']) ?_
            refine hK.out _ _ ?_ (fun hHeld => ?_)
            · exact Below.setRow hHeld zb.size _
            clear hK K
            try simp only [Act.put, List.setIfInBounds_toArray, List.set_cons_zero, List.set_cons_succ]
            refine wpAnyH_done (by kernel_rfl) ?_ _
            go_wp2_with fail
            go_meet
            exact ⟨w2.heap.size, rfl, hz.setRow _, zb.size, Below.setRow (zb.alloc zb.size _) zb.size _⟩
          ·
            go_simp
            refine hK.out _ _ ?_ (fun hHeld => ?_)
            · exact hHeld.alloc hHeld.size _
            clear hK K
            try simp only [Act.put, List.setIfInBounds_toArray, List.set_cons_zero, List.set_cons_succ]
            refine wpAnyH_ready (rs := [12]) (by kernel_rfl) (by simp) ?_
            refine AllReadyH.cons rfl (fun K hK => ?_) (AllReadyH.nil)
            go_simp
            go_at_call 100
            refine (HD.out _ (HBw.out.trans (hHeld.mono HBw.out.size))).mono ?_
            rintro e w2 ⟨rfl, hb2⟩
            try go_simp
            refine hK.out _ _ ?_ (fun hHeld => ?_)
            · exact hHeld.trans (hb2.mono hHeld.size)
            clear hK K
            try simp only [Act.put, List.setIfInBounds_toArray, List.set_cons_zero, List.set_cons_succ]
            refine wpAnyH_ready (rs := [14]) (by kernel_rfl) (by simp) ?_
            refine AllReadyH.cons rfl (fun K hK => ?_) (AllReadyH.nil)
            have hz : Row w2 wr.heap.size 110 [.int .i64 0, .int .i64 0] := Row.old (w := (wr.drew.alloc (.cells #[.int .i64 0, .int .i64 0] 110))) (Row.new wr.drew 110 [.int .i64 0, .int .i64 0]) hb2
            refine step_store_row rfl 110 _ _ rfl wr.heap.size [.int .i64 dn, .int .i64 dd] rfl rfl 110 [.int .i64 0, .int .i64 0] hz (by kernel_rfl) rfl (by simp [Value.oneCell']) ?_
            refine hK.out _ _ ?_ (fun hHeld => ?_)
            · exact Below.setRow hHeld (Nat.le_refl _) _
            clear hK K
            try simp only [Act.put, List.setIfInBounds_toArray, List.set_cons_zero, List.set_cons_succ]
            refine wpAnyH_done (by kernel_rfl) ?_ _
            go_wp2_with fail
            go_meet
            have zb : Below wr.heap.size wr w2 := ((Below.refl _ wr).drew.alloc (Nat.le_refl _) _).trans (hb2.mono (by simp))
            exact ⟨wr.heap.size, rfl, hz.setRow _, Nat.le_refl _, Below.setRow zb (Nat.le_refl _) _⟩
        case rest =>
          obtain ⟨g, rfl, hrow, hgw, hbw⟩ := hcut
          have hb2 := HRb.out.old hbw
          have HRg := Lib.hid hrow; have HRb2 := Lib.hid hb2
          have HB2 := Lib.hid (HBw.out.trans (hbw.mono HBw.out.size))
          have z1 := HRb.out.lt
          have z2 := hrow.lt
          have z3 := hb2.lt
          have p0 := hb2.cell 0; have p1 := hb2.cell 1; have r0 := hrow.cell 0; have r1 := hrow.cell 1
          simp only [List.getElem?_cons_succ, List.getElem?_cons_zero] at p0 p1 r0 r1
          have hmul : (-4611686018427387904 ≤ dn * b1 ∧ dn * b1 ≤ 4611686018427387904) ∧ (-4611686018427387904 ≤ b0 * dd ∧ b0 * dd ≤ 4611686018427387904) := by
            have h1 := Hdb.out; have h2 := Hb.out
            have m1 : dn * b1 ≤ 536870912 * 4096 := Int.mul_le_mul h1.1.2 h2.2.2.2 h2.2.2.1 (by decide)
            have m2 : b0 * dd ≤ 536870912 * 4096 := Int.mul_le_mul h2.2.1 h1.2.2 (by omega) (by decide)
            have m3 : 0 ≤ dn * b1 := Int.mul_nonneg h1.1.1 h2.2.2.1
            have m4 : 0 ≤ b0 * dd := Int.mul_nonneg h2.1 (by omega)
            omega
          have Hmul := Lib.hid hmul
          clear hrow hb2 hbw hmul
          have hne : Hid (w5.heap.size ≠ g) := by unfold Hid; omega
          by_cases hz : b1 = 0
          · subst hz
            go_upto_region 14 with (refine wpList_store_row rfl 110 _ _ rfl w5.heap.size #[.int .i64 dn, .int .i64 dd] rfl rfl 110 _ HRb2.out ?_ ?_ ?_ ?_; (kernel_rfl); (rfl); (simp [Value.oneCell']))
            refine genA (w0 := w5) w5.heap.size 110 [.int .i64 dn, .int .i64 dd] (HRb2.out.setRow _) (Below.setRow HB2.out (Nat.le_refl _) _) ?_
            intro w8 r8 b8
            have R8 := Lib.hid r8; have B8 := Lib.hid b8
            have q0 := r8.cell 0; have q1 := r8.cell 1
            simp only [List.getElem?_cons_succ, List.getElem?_cons_zero] at q0 q1
            have Hst : Hid (alignL X Y reach least = if dn = 0 then (dn, dd, s) else alGo X Y least k (s + 1) (dn, dd, s)) := by
              unfold Hid; rw [← HG.out, Hgl.out]; simp
            clear r8 b8 p0 p1 r0 r1
            by_cases hd0 : dn = 0
            · have hd1 : (dn == 0) = true := by simpa using hd0
              have hdd1 : (dd == 0) = false := by have := Hdb.out; simp; omega
              have HFIN : Hid (alignL X Y reach least = (dn, dd, s)) := by unfold Hid; rw [Hst.out, if_pos hd0]
              clear hd0
              go_wp2
              have HR8 := Lib.hid (HR5.out.old B8.out)
              have z0 := HR8.out.cell 0; have z1 := HR8.out.cell 1
              simp only [List.getElem?_cons_succ, List.getElem?_cons_zero] at z0 z1
              have f0 := HR8.out.free 0; have f1 := HR8.out.free 1
              have n1 : ¬ w.heap.size = w5.heap.size := by have := HR5.out.lt; omega
              have n2 : ¬ w5.heap.size = w.heap.size := fun h => n1 h.symm
              have HS0 : Hid (w8.cell? ⟨w5.heap.size, 0, none⟩ = some (.int .i64 dn) ∧ w8.cell? ⟨w5.heap.size, 1, none⟩ = some (.int .i64 dd)) := ⟨by rw [R8.out.cell]; rfl, by rw [R8.out.cell]; rfl⟩
              have hK : ∀ (V : World) o v, (V.cell? ⟨w5.heap.size, 0, none⟩ = some (.int .i64 dn) ∧ V.cell? ⟨w5.heap.size, 1, none⟩ = some (.int .i64 dd)) → ((V.setCell ⟨w.heap.size, o, none⟩ v).cell? ⟨w5.heap.size, 0, none⟩ = some (.int .i64 dn) ∧ (V.setCell ⟨w.heap.size, o, none⟩ v).cell? ⟨w5.heap.size, 1, none⟩ = some (.int .i64 dd)) := fun V o v h => ⟨(World.cell?_setCell_far V _ _ v n1).trans h.1, (World.cell?_setCell_far V _ _ v n1).trans h.2⟩
              have HK := Lib.hid hK
              clear hK
              go_region_held3 (fun w' => w'.cell? ⟨w5.heap.size, 0, none⟩ = some (.int .i64 dn) ∧ w'.cell? ⟨w5.heap.size, 1, none⟩ = some (.int .i64 dd)) (first | assumption | exact HS0.out | exact HK.out _ _ _ (HK.out _ _ _ (by assumption)) | exact HK.out _ _ _ (HK.out _ _ _ HS0.out)) (fail)
              all_goals go_wp2
              try rw [Exit.noGoto_ret]
              have hrow : Row ((w8.setCell ⟨w.heap.size, 0, none⟩ (.int .i64 dn)).setCell ⟨w.heap.size, 1, none⟩ (.int .i64 dd)).drew w.heap.size 110 [.int .i64 dn, .int .i64 dd] := (HR8.out.set 0 _).set 1 _
              have hbw : Below w.heap.size w w8 := HB5.out.trans (B8.out.mono HB5.out.size)
              refine bodyPost_ret (results_tct rfl _ _ w.heap.size 110 #[.int .i64 dn, .int .i64 dd] (0, 0) _ rfl hrow Tryz.underlying110 rfl (by kernel_rfl)) rfl ⟨?_, ((hbw.setCell (Nat.le_refl _) _).setCell (Nat.le_refl _) _).drew⟩
              rw [HAL.out, HFIN.out, alRes, if_neg (show ¬ (dn, dd, s).2.1 = 0 from by simpa using hdd1)]
              exact rfl
            · have hd1 : (dn == 0) = false := by simpa using hd0
              have Hst2 : Hid (alGo X Y least k (s + 1) (dn, dd, s) = alignL X Y reach least) := by unfold Hid; rw [Hst.out, if_neg hd0]
              clear hd0
              go_wp2
              go_roundg k
              case measure => omega
              case rel => exact ⟨s + 1, dn, dd, s, by go_num, rfl, by omega, by omega, HK1.out, Hst2.out, by have := Hdb.out; show _ ∧ _ ∧ _ ∧ _; omega, R8, B8⟩
          · have hz1 : (b1 == 0) = false := by simpa using hz
            have HZ := Lib.hid hz
            obtain ⟨lt, hlt9⟩ : ∃ lt, lt = decide (dn * b1 < b0 * dd) := ⟨_, rfl⟩
            have HLS : Hid (∀ W, Calls Tryz.prog 101 #[.agg #[.int .i64 dn, .int .i64 dd], .agg #[.int .i64 b0, .int .i64 b1]] W fun e w' => e = .returned (.bool lt) ∧ Below W.heap.size W w') := fun W => by
              rw [hlt9]; exact isLess_any dn dd b0 b1 W Hmul.out.1.1 Hmul.out.1.2 Hmul.out.2.1 Hmul.out.2.2
            have Hlt := Lib.hid hlt9
            have Hst : Hid (alignL X Y reach least = (let b' := if lt = true then (dn, dd, s) else (b0, b1, b2); if b'.1 = 0 then b' else alGo X Y least k (s + 1) b')) := by
              unfold Hid; rw [← HG.out, Hgl.out, hlt9]
              by_cases hq : dn * b1 < b0 * dd
              · simp [hq]
              · simp [hq, hz]
            clear hz hlt9
            cases lt
            · go_upto_region 14 with (go_at_call 101; refine (HLS.out _).mono ?_; rintro e w7 ⟨rfl, hb7⟩; have HB7 := Lib.hid hb7; clear hb7)
              refine genA (w0 := w5) w5.heap.size 110 [.int .i64 b0, .int .i64 b1] (HRb2.out.old HB7.out) (HB2.out.trans (HB7.out.mono HB2.out.size)) ?_
              intro w8 r8 b8
              have R8 := Lib.hid r8; have B8 := Lib.hid b8
              have q0 := r8.cell 0; have q1 := r8.cell 1
              simp only [List.getElem?_cons_succ, List.getElem?_cons_zero] at q0 q1
              clear r8 b8 p0 p1 r0 r1
              by_cases hd0 : b0 = 0
              · have hd1 : (b0 == 0) = true := by simpa using hd0
                have hdd1 : (b1 == 0) = false := hz1
                have HFIN : Hid (alignL X Y reach least = (b0, b1, b2)) := by unfold Hid; rw [Hst.out]; simp [hd0]
                clear hd0
                go_wp2
                have HR8 := Lib.hid (HR5.out.old B8.out)
                have z0 := HR8.out.cell 0; have z1 := HR8.out.cell 1
                simp only [List.getElem?_cons_succ, List.getElem?_cons_zero] at z0 z1
                have f0 := HR8.out.free 0; have f1 := HR8.out.free 1
                have n1 : ¬ w.heap.size = w5.heap.size := by have := HR5.out.lt; omega
                have n2 : ¬ w5.heap.size = w.heap.size := fun h => n1 h.symm
                have HS0 : Hid (w8.cell? ⟨w5.heap.size, 0, none⟩ = some (.int .i64 b0) ∧ w8.cell? ⟨w5.heap.size, 1, none⟩ = some (.int .i64 b1)) := ⟨by rw [R8.out.cell]; rfl, by rw [R8.out.cell]; rfl⟩
                have hK : ∀ (V : World) o v, (V.cell? ⟨w5.heap.size, 0, none⟩ = some (.int .i64 b0) ∧ V.cell? ⟨w5.heap.size, 1, none⟩ = some (.int .i64 b1)) → ((V.setCell ⟨w.heap.size, o, none⟩ v).cell? ⟨w5.heap.size, 0, none⟩ = some (.int .i64 b0) ∧ (V.setCell ⟨w.heap.size, o, none⟩ v).cell? ⟨w5.heap.size, 1, none⟩ = some (.int .i64 b1)) := fun V o v h => ⟨(World.cell?_setCell_far V _ _ v n1).trans h.1, (World.cell?_setCell_far V _ _ v n1).trans h.2⟩
                have HK := Lib.hid hK
                clear hK
                go_region_held3 (fun w' => w'.cell? ⟨w5.heap.size, 0, none⟩ = some (.int .i64 b0) ∧ w'.cell? ⟨w5.heap.size, 1, none⟩ = some (.int .i64 b1)) (first | assumption | exact HS0.out | exact HK.out _ _ _ (HK.out _ _ _ (by assumption)) | exact HK.out _ _ _ (HK.out _ _ _ HS0.out)) (fail)
                all_goals go_wp2
                try rw [Exit.noGoto_ret]
                have hrow : Row ((w8.setCell ⟨w.heap.size, 0, none⟩ (.int .i64 b0)).setCell ⟨w.heap.size, 1, none⟩ (.int .i64 b1)).drew w.heap.size 110 [.int .i64 b0, .int .i64 b1] := (HR8.out.set 0 _).set 1 _
                have hbw : Below w.heap.size w w8 := HB5.out.trans (B8.out.mono HB5.out.size)
                refine bodyPost_ret (results_tct rfl _ _ w.heap.size 110 #[.int .i64 b0, .int .i64 b1] (0, 0) _ rfl hrow Tryz.underlying110 rfl (by kernel_rfl)) rfl ⟨?_, ((hbw.setCell (Nat.le_refl _) _).setCell (Nat.le_refl _) _).drew⟩
                rw [HAL.out, HFIN.out, alRes, if_neg (show ¬ (b0, b1, b2).2.1 = 0 from by simpa using hdd1)]
                exact rfl
              · have hd1 : (b0 == 0) = false := by simpa using hd0
                have Hst2 : Hid (alGo X Y least k (s + 1) (b0, b1, b2) = alignL X Y reach least) := by unfold Hid; rw [Hst.out]; simp [hd0]
                clear hd0
                go_wp2
                go_roundg k
                case measure => omega
                case rel => exact ⟨s + 1, b0, b1, b2, by go_num, rfl, by omega, by omega, HK1.out, Hst2.out, Hb.out, R8, B8⟩
            · go_upto_region 14 with (first
                | (go_at_call 101; refine (HLS.out _).mono ?_; rintro e w7 ⟨rfl, hb7⟩; have HB7 := Lib.hid hb7; have HRb7 := Lib.hid (HRb2.out.old hb7); have HRg7 := Lib.hid (HRg.out.old hb7); have r0 := HRg7.out.cell 0; have r1 := HRg7.out.cell 1; simp only [List.getElem?_cons_succ, List.getElem?_cons_zero] at r0 r1; clear hb7)
                | (refine wpList_store_row rfl 110 _ _ rfl w5.heap.size #[.int .i64 dn, .int .i64 dd] rfl rfl 110 _ HRb7.out ?_ ?_ ?_ ?_; (kernel_rfl); (rfl); (simp [Value.oneCell'])))
              refine genA (w0 := w5) w5.heap.size 110 [.int .i64 dn, .int .i64 dd] (HRb7.out.setRow _) (Below.setRow (HB2.out.trans (HB7.out.mono HB2.out.size)) (Nat.le_refl _) _) ?_
              intro w8 r8 b8
              have R8 := Lib.hid r8; have B8 := Lib.hid b8
              have q0 := r8.cell 0; have q1 := r8.cell 1
              simp only [List.getElem?_cons_succ, List.getElem?_cons_zero] at q0 q1
              clear r8 b8 p0 p1
              by_cases hd0 : dn = 0
              · have hd1 : (dn == 0) = true := by simpa using hd0
                have hdd1 : (dd == 0) = false := by have := Hdb.out; simp; omega
                have HFIN : Hid (alignL X Y reach least = (dn, dd, s)) := by unfold Hid; rw [Hst.out]; simp [hd0]
                clear hd0
                go_wp2
                have HR8 := Lib.hid (HR5.out.old B8.out)
                have z0 := HR8.out.cell 0; have z1 := HR8.out.cell 1
                simp only [List.getElem?_cons_succ, List.getElem?_cons_zero] at z0 z1
                have f0 := HR8.out.free 0; have f1 := HR8.out.free 1
                have n1 : ¬ w.heap.size = w5.heap.size := by have := HR5.out.lt; omega
                have n2 : ¬ w5.heap.size = w.heap.size := fun h => n1 h.symm
                have HS0 : Hid (w8.cell? ⟨w5.heap.size, 0, none⟩ = some (.int .i64 dn) ∧ w8.cell? ⟨w5.heap.size, 1, none⟩ = some (.int .i64 dd)) := ⟨by rw [R8.out.cell]; rfl, by rw [R8.out.cell]; rfl⟩
                have hK : ∀ (V : World) o v, (V.cell? ⟨w5.heap.size, 0, none⟩ = some (.int .i64 dn) ∧ V.cell? ⟨w5.heap.size, 1, none⟩ = some (.int .i64 dd)) → ((V.setCell ⟨w.heap.size, o, none⟩ v).cell? ⟨w5.heap.size, 0, none⟩ = some (.int .i64 dn) ∧ (V.setCell ⟨w.heap.size, o, none⟩ v).cell? ⟨w5.heap.size, 1, none⟩ = some (.int .i64 dd)) := fun V o v h => ⟨(World.cell?_setCell_far V _ _ v n1).trans h.1, (World.cell?_setCell_far V _ _ v n1).trans h.2⟩
                have HK := Lib.hid hK
                clear hK
                go_region_held3 (fun w' => w'.cell? ⟨w5.heap.size, 0, none⟩ = some (.int .i64 dn) ∧ w'.cell? ⟨w5.heap.size, 1, none⟩ = some (.int .i64 dd)) (first | assumption | exact HS0.out | exact HK.out _ _ _ (HK.out _ _ _ (by assumption)) | exact HK.out _ _ _ (HK.out _ _ _ HS0.out)) (fail)
                all_goals go_wp2
                try rw [Exit.noGoto_ret]
                have hrow : Row ((w8.setCell ⟨w.heap.size, 0, none⟩ (.int .i64 dn)).setCell ⟨w.heap.size, 1, none⟩ (.int .i64 dd)).drew w.heap.size 110 [.int .i64 dn, .int .i64 dd] := (HR8.out.set 0 _).set 1 _
                have hbw : Below w.heap.size w w8 := HB5.out.trans (B8.out.mono HB5.out.size)
                refine bodyPost_ret (results_tct rfl _ _ w.heap.size 110 #[.int .i64 dn, .int .i64 dd] (0, 0) _ rfl hrow Tryz.underlying110 rfl (by kernel_rfl)) rfl ⟨?_, ((hbw.setCell (Nat.le_refl _) _).setCell (Nat.le_refl _) _).drew⟩
                rw [HAL.out, HFIN.out, alRes, if_neg (show ¬ (dn, dd, s).2.1 = 0 from by simpa using hdd1)]
                exact rfl
              · have hd1 : (dn == 0) = false := by simpa using hd0
                have Hst2 : Hid (alGo X Y least k (s + 1) (dn, dd, s) = alignL X Y reach least) := by unfold Hid; rw [Hst.out]; simp [hd0]
                clear hd0
                go_wp2
                go_roundg k
                case measure => omega
                case rel => exact ⟨s + 1, dn, dd, s, by go_num, rfl, by omega, by omega, HK1.out, Hst2.out, by have := Hdb.out; show _ ∧ _ ∧ _ ∧ _; omega, R8, B8⟩
      · have HG2 : Hid (alGo X Y least k (s + 1) (b0, b1, b2) = alignL X Y reach least) := by
          unfold Hid; rw [← HG.out, alGo_short _ _ _ _ _ _ (by rw [HF.out, ← HTT.out]; exact of_decide_eq_true hlt2)]
        go_wp2
        go_roundg k
        case measure => omega
        case rel => exact ⟨s + 1, b0, b1, b2, by go_num, rfl, by omega, by omega, HK1.out, HG2.out, Hb, HRb, HBw⟩
    · have hg0 : gk = 0 := by omega
      have HFIN : Hid (alignL X Y reach least = (b0, b1, b2)) := by unfold Hid; rw [← HG.out, hg0]; rfl
      clear hg hg0
      have R8 := HRb; have B8 := HBw
      have q0 := R8.out.cell 0; have q1 := R8.out.cell 1
      simp only [List.getElem?_cons_succ, List.getElem?_cons_zero] at q0 q1
      by_cases hz : b1 = 0
      · subst hz
        have HR8 := Lib.hid (HR5.out.old B8.out)
        have z0 := HR8.out.cell 0; have z1 := HR8.out.cell 1
        simp only [List.getElem?_cons_succ, List.getElem?_cons_zero] at z0 z1
        have f0 := HR8.out.free 0; have f1 := HR8.out.free 1
        have hbw : Hid (Below w.heap.size w wr) := HB5.out.trans (B8.out.mono HB5.out.size)
        go_wp2
        try rw [Exit.noGoto_ret]
        have hrow : Row ((wr.setCell ⟨w.heap.size, 0, none⟩ (.int .i64 0)).setCell ⟨w.heap.size, 1, none⟩ (.int .i64 0)) w.heap.size 110 [.int .i64 0, .int .i64 0] := (HR8.out.set 0 _).set 1 _
        refine bodyPost_ret (results_tct rfl _ _ w.heap.size 110 #[.int .i64 0, .int .i64 0] (0, 0) _ rfl hrow Tryz.underlying110 rfl (by kernel_rfl)) rfl ⟨?_, ((hbw.out.setCell (Nat.le_refl _) _).setCell (Nat.le_refl _) _)⟩
        rw [HAL.out, HFIN.out, alRes, if_pos rfl]
        exact rfl
      · have hdd1 : (b1 == 0) = false := by simpa using hz
        clear hz
        go_wp2
        have HR8 := Lib.hid (HR5.out.old HBw.out)
        have z0 := HR8.out.cell 0; have z1 := HR8.out.cell 1
        simp only [List.getElem?_cons_succ, List.getElem?_cons_zero] at z0 z1
        have f0 := HR8.out.free 0; have f1 := HR8.out.free 1
        have n1 : ¬ w.heap.size = w5.heap.size := by have := HR5.out.lt; omega
        have n2 : ¬ w5.heap.size = w.heap.size := fun h => n1 h.symm
        have HS0 : Hid (wr.cell? ⟨w5.heap.size, 0, none⟩ = some (.int .i64 b0) ∧ wr.cell? ⟨w5.heap.size, 1, none⟩ = some (.int .i64 b1)) := ⟨by rw [HRb.out.cell]; rfl, by rw [HRb.out.cell]; rfl⟩
        have hK : ∀ (V : World) o v, (V.cell? ⟨w5.heap.size, 0, none⟩ = some (.int .i64 b0) ∧ V.cell? ⟨w5.heap.size, 1, none⟩ = some (.int .i64 b1)) → ((V.setCell ⟨w.heap.size, o, none⟩ v).cell? ⟨w5.heap.size, 0, none⟩ = some (.int .i64 b0) ∧ (V.setCell ⟨w.heap.size, o, none⟩ v).cell? ⟨w5.heap.size, 1, none⟩ = some (.int .i64 b1)) := fun V o v h => ⟨(World.cell?_setCell_far V _ _ v n1).trans h.1, (World.cell?_setCell_far V _ _ v n1).trans h.2⟩
        have HK := Lib.hid hK
        clear hK
        go_region_held3 (fun w' => w'.cell? ⟨w5.heap.size, 0, none⟩ = some (.int .i64 b0) ∧ w'.cell? ⟨w5.heap.size, 1, none⟩ = some (.int .i64 b1)) (first | assumption | exact HS0.out | exact HK.out _ _ _ (HK.out _ _ _ (by assumption)) | exact HK.out _ _ _ (HK.out _ _ _ HS0.out)) (fail)
        all_goals go_wp2
        try rw [Exit.noGoto_ret]
        have hrow : Row ((wr.setCell ⟨w.heap.size, 0, none⟩ (.int .i64 b0)).setCell ⟨w.heap.size, 1, none⟩ (.int .i64 b1)).drew w.heap.size 110 [.int .i64 b0, .int .i64 b1] := (HR8.out.set 0 _).set 1 _
        have hbw : Below w.heap.size w wr := HB5.out.trans (HBw.out.mono HB5.out.size)
        refine bodyPost_ret (results_tct rfl _ _ w.heap.size 110 #[.int .i64 b0, .int .i64 b1] (0, 0) _ rfl hrow Tryz.underlying110 rfl (by kernel_rfl)) rfl ⟨?_, ((hbw.setCell (Nat.le_refl _) _).setCell (Nat.le_refl _) _).drew⟩
        rw [HAL.out, HFIN.out, alRes, if_neg (show ¬ (b0, b1, b2).2.1 = 0 from by simpa using hdd1)]
        exact rfl
end Go.Proofs.YtoclnlimnjnbkaaGreatDoor
