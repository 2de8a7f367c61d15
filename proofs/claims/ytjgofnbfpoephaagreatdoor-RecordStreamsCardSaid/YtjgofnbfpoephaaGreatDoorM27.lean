/- Contracts: words are heard. -/
import Derived.Test.YtjgofnbfpoephaaGreatDoorM26
import Derived.Test.YtjgofnbfpoephaaGreatDoorM22
namespace Go.Proofs.YtjgofnbfpoephaaGreatDoor
set_option linter.all false
open Go.RowKit Go.Maps Go.Fl
set_option linter.unusedVariables false
set_option linter.unusedSimpArgs false

abbrev HeS := List ByteArray × ByteArray × ByteArray
def onS (s : HeS) (n d : Int) : HeS := (s.1, s.2.1, s.2.2 ++ if n < 2 * d then ⟨#[48]⟩ else ⟨#[49]⟩)
def endS (s : HeS) : HeS := (addW s.1 (lettI s.2.1 s.2.2), ⟨#[]⟩, ⟨#[]⟩)
def offS (s : HeS) (n d : Int) : HeS := if 5 * d ≤ n then endS s else if 2 * d ≤ n then (s.1, lettI s.2.1 s.2.2, ⟨#[]⟩) else s
def HeT (w0 : World) (g b : Nat) (s : HeS) (W : World) : Prop := HeI w0 g b s.1 s.2.1 s.2.2 W
def smallS (s : HeS) (k : Nat) : Prop := s.1.length ≤ k ∧ s.2.1.size ≤ k ∧ s.2.2.size ≤ k
theorem addW_len (l : List ByteArray) (wd : ByteArray) : (addW l wd).length ≤ l.length + 1 := by unfold addW; split <;> simp
theorem onS_small {s : HeS} {k : Nat} (h : smallS s k) (n d : Int) : smallS (onS s n d) (k + 1) := by
  obtain ⟨h1, h2, h3⟩ := h
  refine ⟨Nat.le_succ_of_le h1, Nat.le_succ_of_le h2, ?_⟩
  show (s.2.2 ++ _).size ≤ _
  rw [ByteArray.size_append]
  have : (if n < 2 * d then (⟨#[48]⟩ : ByteArray) else ⟨#[49]⟩).size = 1 := by split <;> rfl
  omega
theorem offS_small {w0 W : World} {g b : Nat} {s : HeS} {k : Nat} (hI : HeT w0 g b s W) (h : smallS s k) (hk : k ≤ 100000) (n d : Int) : smallS (offS s n d) (k + 1) := by
  obtain ⟨h1, h2, h3⟩ := h
  have hl := lettI_size hI (by omega)
  unfold offS
  split
  · refine ⟨?_, Nat.zero_le _, Nat.zero_le _⟩
    have := addW_len s.1 (lettI s.2.1 s.2.2)
    show (addW _ _).length ≤ _
    omega
  · split
    · exact ⟨Nat.le_succ_of_le h1, by show (lettI _ _).size ≤ _; omega, Nat.zero_le _⟩
    · exact ⟨Nat.le_succ_of_le h1, Nat.le_succ_of_le h2, Nat.le_succ_of_le h3⟩
theorem onT_any (w0 : World) (g b : Nat) (s : HeS) (k : Nat) (n d : Int) (w : World) (hI : HeT w0 g b s w) (hs : smallS s k) (hk : k ≤ 100000) (hn : 0 ≤ n ∧ n ≤ 100000) (hd : 0 ≤ d ∧ d ≤ 100) :
    Calls Tryz.prog 141 #[.pointer (some ⟨g, 0, none⟩), .int .i64 n, .int .i64 d] w fun e w' => e = .returned (.tuple #[]) ∧ HeT w0 g b (onS s n d) w' :=
  on_any w0 g b s.1 s.2.1 s.2.2 n d w hI hn hd (Nat.le_trans hs.2.2 hk)

set_option maxRecDepth 100000 in
set_option maxHeartbeats 400000 in
theorem offT_any (w0 : World) (g b : Nat) (s : HeS) (k : Nat) (n d : Int) (w : World) (hI : HeT w0 g b s w) (hs : smallS s k) (hk : k ≤ 100000) (hn : 0 ≤ n ∧ n ≤ 100000) (hd : 0 ≤ d ∧ d ≤ 100) :
    Calls Tryz.prog 142 #[.pointer (some ⟨g, 0, none⟩), .int .i64 n, .int .i64 d] w fun e w' => e = .returned (.tuple #[]) ∧ HeT w0 g b (offS s n d) w' := by
  have HW := Lib.hid (endWord_any w0 g b s.1 s.2.1 s.2.2 w hI (Nat.le_trans hs.2.2 hk) (Nat.le_trans hs.2.1 hk) (Nat.le_trans hs.1 hk))
  have HL := Lib.hid (endLetter_any w0 g b s.1 s.2.1 s.2.2 w hI (Nat.le_trans hs.2.2 hk) (Nat.le_trans hs.2.1 hk))
  have HI := Lib.hid hI
  clear hI hs
  by_cases h5 : 5 * d ≤ n
  · have HO : Hid (offS s n d = endS s) := by unfold Hid offS; rw [if_pos h5]
    go_enter Tryz.func142, Tryz.ntmps142
    go_wp2_with fail
    refine HW.out.mono ?_
    rintro e w1 ⟨rfl, h1⟩
    go_wp2
    go_end0
    exact ⟨rfl, by rw [HO.out]; exact h1⟩
  · by_cases h2 : 2 * d ≤ n
    · have HO : Hid (offS s n d = (s.1, lettI s.2.1 s.2.2, ⟨#[]⟩)) := by unfold Hid offS; rw [if_neg h5, if_pos h2]
      go_enter Tryz.func142, Tryz.ntmps142
      go_wp2_with fail
      refine HL.out.mono ?_
      rintro e w1 ⟨rfl, h1⟩
      go_wp2
      go_end0
      exact ⟨rfl, by rw [HO.out]; exact h1⟩
    · have HO : Hid (offS s n d = s) := by unfold Hid offS; rw [if_neg h5, if_neg h2]
      go_enter Tryz.func142, Tryz.ntmps142
      go_wp2
      go_end0
      exact ⟨rfl, by rw [HO.out]; exact HI.out⟩

def hearGo (xs : List Nat) (d : Int) : Nat → Nat → HeS → HeS
  | 0, _, s => s
  | f + 1, i, s => if i < xs.length then hearGo xs d f (spanEndL xs i) (if onB (xs.getD i 0) then onS s ((spanEndL xs i : Int) - i) d else offS s ((spanEndL xs i : Int) - i) d) else s
def heardL (xs : List Nat) (d : Int) : List ByteArray := (endS (hearGo xs d xs.length 0 ([], ⟨#[]⟩, ⟨#[]⟩))).1
theorem spanEndL_bd {xs : List Nat} {i : Nat} (h : i < xs.length) : i < spanEndL xs i ∧ spanEndL xs i ≤ xs.length := by
  have := runL_le (onB (xs.getD i 0)) (xs.drop (i + 1))
  rw [List.length_drop] at this
  unfold spanEndL; omega
theorem HeT.drewN {w0 W : World} {g b : Nat} {s : HeS} (h : HeT w0 g b s W) (q : Nat) : HeT w0 g b s (W.drewN q) := by
  obtain ⟨h0, v, h1, h2, h3, h4⟩ := h
  exact ⟨h0, v, h1, h2, h3, below_drewN h4 q⟩
theorem HeT.below {w0 W : World} {g b : Nat} {s : HeS} (h : HeT w0 g b s W) : Below w0.heap.size w0 W := by
  obtain ⟨_, v, _, _, _, h4⟩ := h; exact h4
/-- what Heard returns for the words -/
def HeardR (w0 : World) (l : List ByteArray) (e : Ending) (w' : World) : Prop := ∃ v, (if 64 < l.length then e = .returned (.tuple #[.slice none 0 0, .int .i64 5]) else e = .returned (.tuple #[v, .int .i64 0]) ∧ w'.ownsRow w0.heap.size 9 1 v l.length (strs l)) ∧ Below w0.heap.size w0 w'
theorem heI_gen {p : World → Prop} {w0 W : World} {g b : Nat} {s : HeS} (h : HeT w0 g b s W) (k : ∀ W, HeT w0 g b s W → p W) : p W := k W h

set_option maxRecDepth 100000 in
set_option maxHeartbeats 1000000 in
theorem heard_ok (A : Option Addr) (n c : Nat) (xs : List Nat) (d : Int) (w : World) (hA : Rd w A (flts xs)) (hn : n = xs.length) (hm : xs.length ≤ 4096) (h0 : sampsI xs = 0) (hd : 1 ≤ d ∧ d ≤ 16) (hT : Tz w) :
    Calls Tryz.prog 67 #[.slice A n c, .int .i64 d] w fun e w' => HeardR w (heardL xs d) e w' := by
  subst hn
  have HC : Hid (Calls Tryz.prog 26 #[.slice A xs.length c] w fun e w' => e = .returned (.int .i64 0) ∧ Below w.heap.size w w') := by unfold Hid; rw [← h0]; exact checkSamples_any A _ c xs w hA rfl
  have HZ : Hid (whenI (rangeB d 1 16) 3 = 0) := by unfold Hid whenI rangeB; simp; omega
  have HA := Lib.hid hA; have HT := Lib.hid hT
  clear hA hT h0
  go_enter Tryz.func67, Tryz.ntmps67
  go_wp2_with (first
    | (go_at_call 26; refine HC.out.mono ?_; rintro e w1 ⟨rfl, hb1⟩; have HB1 := Lib.hid hb1; clear hb1)
    | (go_at_call 88; refine (between_any _ _ _ _).mono ?_; rintro e w3 ⟨rfl, rfl⟩; rw [HZ.out])
    | (go_at_call 87; refine (firstV_any _ _ _ [0, 0] _ (Rd.new _ _ _ _ rfl) rfl (by simp)).mono ?_; rintro e w3 ⟨rfl, rfl⟩)
    | (go_at_call 138; refine (letters_any _ (HT.out.old (HB1.out.alloc HB1.out.size _))).mono ?_; rintro e w4 ⟨b, rfl, hm4, hb4, hw4⟩; have HM4 := Lib.hid hm4; have HB4 := Lib.hid ((HB1.out.alloc HB1.out.size _).trans (hw4.mono (by have := HB1.out.size; simp; omega))); clear hm4 hw4 hb4))
  have HI0 : Hid (HeT w w4.heap.size b ([], ⟨#[]⟩, ⟨#[]⟩) (w4.alloc (.cells #[.map (some b), .slice none 0 0, .string ⟨#[]⟩, .string ⟨#[]⟩] 203))) :=
    ⟨HB4.out.size, .slice none 0 0, Row.new w4 _ (heB b (.slice none 0 0) ⟨#[]⟩ ⟨#[]⟩), HM4.out.alloc _, World.ownsRow_nil _ _ _ _, HB4.out.alloc HB4.out.size _⟩
  refine heI_gen HI0.out ?_
  clear HI0 HM4 HC HT
  intro w5 hi5
  have HI5 := Lib.hid hi5
  clear hi5
  go_loopg [8] xs.length (fun g i wr => ∃ (k : Nat) (s : HeS), k ≤ xs.length ∧ i = .int .i64 k ∧ Hid (hearGo xs d g k s = hearGo xs d xs.length 0 ([], ⟨#[]⟩, ⟨#[]⟩)) ∧ Hid (smallS s k) ∧ Hid (HeT w w4.heap.size b s wr) ∧ Hid (xs.length ≤ k + g))
  case atStart => exact ⟨0, _, Nat.zero_le _, rfl, rfl, ⟨Nat.le_refl _, Nat.le_refl _, Nat.le_refl _⟩, HI5, by show _ ≤ _; omega⟩
  case round =>
    obtain ⟨k, s, hk, rfl, Hg, Hs, HI, Hf⟩ := hrel
    by_cases hlt : k < xs.length
    · obtain ⟨f, rfl⟩ : ∃ f, gk = f + 1 := ⟨gk - 1, by have := Hf.out; omega⟩
      obtain ⟨bb, off, hAb, hc⟩ := Rd.flt (HA.out.below HI.out.below) hlt
      subst hAb
      have hsp := spanEndL_bd hlt
      have HSP : Hid (∀ W, Below w.heap.size w W → Calls Tryz.prog 139 #[.slice (some ⟨bb, off, none⟩) xs.length c, .int .i64 k] W fun e w' => e = .returned (.int .i64 (spanEndL xs k : Nat)) ∧ ∃ q, w' = W.drewN q) := fun W hW => spanEnd_any _ _ c xs k W (HA.out.below hW) rfl hlt (by omega)
      have hstep : hearGo xs d (f + 1) k s = hearGo xs d f (spanEndL xs k) (if onB (xs.getD k 0) then onS s ((spanEndL xs k : Int) - k) d else offS s ((spanEndL xs k : Int) - k) d) := by rw [hearGo, if_pos hlt]
      rw [Hg.out, show xs.getD k 0 = xs[k] by simp [hlt]] at hstep
      obtain ⟨tq, hto⟩ : ∃ tq, tq = spanEndL xs k := ⟨_, rfl⟩
      rw [← hto] at hsp HSP hstep
      obtain ⟨x, hx⟩ : ∃ x, x = xs[k] := ⟨_, rfl⟩
      rw [← hx] at hc hstep
      have e1 : IntKind.i64.wrap ((tq : Int) - (k : Int)) = (tq : Int) - (k : Int) := IntWalk.i64_in _ (by omega)
      have Hstep := Lib.hid hstep
      clear hstep hto hx
      cases hon : onB x
      · have HON := Lib.hid hon
        clear hon
        go_wp2_with (first
          | (go_at_call 139; refine (HSP.out _ HI.out.below).mono ?_; rintro e w6 ⟨rfl, q, rfl⟩; have HI6 := Lib.hid (HI.out.drewN q))
          | (go_at_call 140; refine (isOn_any _ _).mono ?_; rintro e w7 ⟨rfl, rfl⟩; rw [HON.out])
          | (go_at_call 142; refine (offT_any w w4.heap.size b s k _ d _ HI6.out Hs.out (by omega) (by omega) (by omega)).mono ?_; rintro e w8 ⟨rfl, hi8⟩; have HI8 := Lib.hid hi8; clear hi8))
        go_roundg f
        case measure => omega
        case rel =>
          refine ⟨tq, offS s ((tq : Int) - k) d, by omega, rfl, by show _ = _; rw [Hstep.out, HON.out]; rfl, ?_, HI8, by have := Hf.out; show _ ≤ _; omega⟩
          have h := offS_small HI.out Hs.out (by omega) ((tq : Int) - k) d
          exact ⟨Nat.le_trans h.1 (by omega), Nat.le_trans h.2.1 (by omega), Nat.le_trans h.2.2 (by omega)⟩
      · have HON := Lib.hid hon
        clear hon
        go_wp2_with (first
          | (go_at_call 139; refine (HSP.out _ HI.out.below).mono ?_; rintro e w6 ⟨rfl, q, rfl⟩; have HI6 := Lib.hid (HI.out.drewN q))
          | (go_at_call 140; refine (isOn_any _ _).mono ?_; rintro e w7 ⟨rfl, rfl⟩; rw [HON.out])
          | (go_at_call 141; refine (onT_any w w4.heap.size b s k _ d _ HI6.out Hs.out (by omega) (by omega) (by omega)).mono ?_; rintro e w8 ⟨rfl, hi8⟩; have HI8 := Lib.hid hi8; clear hi8))
        go_roundg f
        case measure => omega
        case rel =>
          refine ⟨tq, onS s ((tq : Int) - k) d, by omega, rfl, by show _ = _; rw [Hstep.out, HON.out]; rfl, ?_, HI8, by have := Hf.out; show _ ≤ _; omega⟩
          have h := onS_small Hs.out ((tq : Int) - k) d
          exact ⟨Nat.le_trans h.1 (by omega), Nat.le_trans h.2.1 (by omega), Nat.le_trans h.2.2 (by omega)⟩
    · have hend : hearGo xs d gk k s = s := by
        cases gk with
        | zero => rfl
        | succ f => rw [hearGo, if_neg hlt]
      have HL : Hid (heardL xs d = addW s.1 (lettI s.2.1 s.2.2)) := by unfold Hid heardL; rw [← Hg.out, hend]; rfl
      have HEW := Lib.hid (endWord_any w w4.heap.size b s.1 s.2.1 s.2.2 wr HI.out (by have := Hs.out.2.2; omega) (by have := Hs.out.2.1; omega) (by have := Hs.out.1; omega))
      obtain ⟨l, hl⟩ : ∃ l, l = addW s.1 (lettI s.2.1 s.2.2) := ⟨_, rfl⟩
      rw [← hl] at HL HEW
      clear hend hl
      by_cases h64 : 64 < l.length
      · go_wp2_with fail
        refine HEW.out.mono ?_
        rintro e w6 ⟨rfl, hg6, v, m1, m2, m3, m4⟩
        obtain ⟨Av, cv, rfl, _⟩ := owned_slice m3
        have c1 : w6.cell? ⟨w4.heap.size, 1, none⟩ = some (.slice Av l.length cv) := by rw [m1.cell]; rfl
        have M4 := Lib.hid m4
        clear m1 m2 m3 m4
        go_wp2
        go_ret2
        exact ⟨.slice none 0 0, by rw [HL.out, if_pos h64]; exact rfl, M4.out⟩
      · go_wp2_with fail
        refine HEW.out.mono ?_
        rintro e w6 ⟨rfl, hg6, v, m1, m2, m3, m4⟩
        obtain ⟨Av, cv, rfl, _⟩ := owned_slice m3
        have c1 : w6.cell? ⟨w4.heap.size, 1, none⟩ = some (.slice Av l.length cv) := by rw [m1.cell]; rfl
        have M4 := Lib.hid m4; have M3 := Lib.hid m3
        clear m1 m2 m3 m4
        go_wp2
        go_ret2
        exact ⟨.slice Av l.length cv, by rw [HL.out, if_neg h64]; exact ⟨rfl, M3.out⟩, M4.out⟩
end Go.Proofs.YtjgofnbfpoephaaGreatDoor
