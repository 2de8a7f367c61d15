import Derived.Test.YtlflfieknibgmaaGreatDoorM07
import Derived.Maps.AppendAt
import Derived.Laws.OwnMore
import Derived.IntWalk
import Derived.Deep.CutRange
import Derived.Deep.DeepCutAuto
import Derived.Laws.IdiomStrings
namespace Go.Proofs.YtlflfieknibgmaaGreatDoor
set_option linter.all false
open Go.RowKit Go.Fl
def Step (w w' : World) (v v' : Value) : Prop := w.grownBy w' v.ownBlock ∧ (v'.ownBlock = v.ownBlock ∨ ∃ k, v'.ownBlock = some k ∧ w.heap.size ≤ k)
theorem Step.below {w w' : World} {v v' : Value} {B : Nat} {e : TypeId} {s n : Nat} {xs : List Value} (h : Step w w' v v') (hv : w.ownsRow B e s v n xs) (hB : B ≤ w.heap.size) : Below B w w' :=
  (Below.refl B w).grown h.1 hB (fun k hk => (hv.lt k hk).1)
theorem Step.of_alloc {w w' : World} {v v' : Value} {o : Obj} (h : (w.alloc o).grownBy w' v.ownBlock) (h2 : v'.ownBlock = v.ownBlock ∨ v'.ownBlock = some (w.alloc o).heap.size) : Step w w' v v' := by
  refine ⟨⟨h.os, h.tape, h.output, by have := h.size; simp at this; omega, fun k hk hne => (h.block k (by simp; omega) hne).trans ((Below.heap_alloc w o k hk))⟩, ?_⟩
  rcases h2 with h2 | h2
  · exact .inl h2
  · exact .inr ⟨_, h2, by simp⟩

def strs (l : List ByteArray) : List Value := l.map Value.string
theorem Rd.str {w : World} {A : Option Addr} {xs : List ByteArray} (h : Rd w A (strs xs)) {j : Nat} (hj : j < xs.length) : ∃ b off, A = some ⟨b, off, none⟩ ∧ w.cell? ⟨b, off + j, none⟩ = some (.string xs[j]) := by
  obtain ⟨b, off, h1, h2⟩ := Rd.at h (j := j) (by simpa [strs] using hj)
  exact ⟨b, off, h1, by rw [h2]; simp [strs]⟩
def sameW : List ByteArray → List ByteArray → Bool
  | [], [] => true
  | p :: l, q :: m => (p.toList == q.toList) && sameW l m
  | _, _ => false
theorem sameW_length {l m : List ByteArray} (h : l.length ≠ m.length) : sameW l m = false := by
  induction l generalizing m with
  | nil => cases m with
    | nil => exact absurd rfl h
    | cons q m => rfl
  | cons p l ih => cases m with
    | nil => rfl
    | cons q m => rw [sameW, ih (by simpa using h), Bool.and_false]
theorem sameW_drop {l m : List ByteArray} {k : Nat} (hx : k < l.length) (hy : k < m.length) : sameW (l.drop k) (m.drop k) = ((l[k].toList == m[k].toList) && sameW (l.drop (k + 1)) (m.drop (k + 1))) := by
  rw [List.drop_eq_getElem_cons hx, List.drop_eq_getElem_cons hy, sameW]
theorem sameW_refl (l : List ByteArray) : sameW l l = true := by
  induction l with
  | nil => rfl
  | cons p l ih => simp [sameW, ih]
set_option maxHeartbeats 400000 in
theorem sameWords_any (A B : Option Addr) (n m c d : Nat) (xs ys : List ByteArray) (w : World) (hA : Rd w A (strs xs)) (hB : Rd w B (strs ys)) (hn : n = xs.length) (hm : m = ys.length) (hx : xs.length ≤ 9223372036854775807) :
    Calls Tryz.prog 16 #[.slice A n c, .slice B m d] w fun e w' => e = .returned (.bool (sameW xs ys)) ∧ ∃ q, w' = w.drewN q := by
  subst hn; subst hm
  by_cases hl : xs.length = ys.length
  · have hl1 : ((xs.length : Int) != (ys.length : Int)) = false := by rw [bne_eq_false_iff_eq]; omega
    have HL := Lib.hid hl; clear hl
    go_enter Tryz.func16, Tryz.ntmps16
    go_wp2
    go_loopw [5] (fun i wr => ∃ k : Nat, k ≤ xs.length ∧ i = .int .i64 k ∧ Hid (sameW (xs.drop k) (ys.drop k) = sameW xs ys) ∧ ∃ q, wr = w.drewN q) (fun i _ => xs.length - (intOf i).toNat)
    case atStart => exact ⟨0, Nat.zero_le _, rfl, rfl, 0, rfl⟩
    case round =>
      obtain ⟨k, hk, rfl, H, q, rfl⟩ := hrel
      by_cases hlt : k < xs.length
      · have hlt2 : k < ys.length := by rw [← HL.out]; exact hlt
        obtain ⟨b, off, rfl, hc⟩ := Rd.str hA hlt
        obtain ⟨b', off', rfl, hc'⟩ := Rd.str hB hlt2
        have i1 : (k : Int) < (xs.length : Int) := by omega
        have i2 : (k : Int) < (ys.length : Int) := by omega
        have HS := Lib.hid (sameW_drop hlt hlt2)
        obtain ⟨x, hx1⟩ : ∃ x, x = xs[k] := ⟨_, rfl⟩
        obtain ⟨y, hy1⟩ : ∃ y, y = ys[k] := ⟨_, rfl⟩
        rw [← hx1] at hc HS; rw [← hy1] at hc' HS
        clear hx1 hy1
        cases ho : (x.toList == y.toList)
        · have Ho := Lib.hid ho
          go_wp2
          go_quiet (fail)
          go_wp2
          go_ret
          exact ⟨ret_bool (by rw [← H.out, HS.out, Ho.out]; rfl), q + _, by rw [World.drewN_drewN]⟩
        · have Ho := Lib.hid ho
          go_wp2
          go_quiet (fail)
          go_wp2
          go_roundw
          case rel => exact ⟨k + 1, by omega, by go_num, by show _ = _; rw [← H.out, HS.out, Ho.out]; rfl, _, rfl⟩
          case measure => simp [intOf]; omega
      · go_wp2
        go_ret
        exact ⟨ret_bool (by rw [← H.out, List.drop_of_length_le (by omega), List.drop_of_length_le (by rw [← HL.out]; omega)]; rfl), q, rfl⟩
  · have hl1 : ((xs.length : Int) != (ys.length : Int)) = true := by rw [bne_iff_ne]; omega
    have HL := Lib.hid hl; clear hl
    go_enter Tryz.func16, Tryz.ntmps16
    go_wp2
    go_ret
    exact ⟨ret_bool (sameW_length HL.out).symm, 0, rfl⟩
def Tz (w : World) : Prop := w.cell? ⟨5, 1, none⟩ = some (.int .u8 1)
theorem Tz.old {w w' : World} (h : Tz w) (hb : Below w.heap.size w w') : Tz w' := (hb.cell (World.block_lt_of_cell? w _ h)).trans h
set_option maxHeartbeats 400000 in
theorem tz2 (w : World) (h : Tz w) : Calls Tryz.prog 183 #[.int .u64 2] w fun e w' => e = .returned (.int .i64 1) ∧ w = w' := by
  unfold Tz at h
  have hoff : (IntKind.u64.wrap (bits BinOp.and IntKind.u64 2 (IntKind.u64.wrap (-2)) * 285870213051353865) / 288230376151711744).toNat = 1 := by decide +kernel
  have h2 : w.cell? ⟨5, (IntKind.u64.wrap (bits BinOp.and IntKind.u64 2 (IntKind.u64.wrap (-2)) * 285870213051353865) / 288230376151711744).toNat, none⟩ = some (.int .u8 1) := by rw [hoff]; exact h
  clear hoff h
  go_enter Tryz.func183, Tryz.ntmps183
  go_wp2
  go_ret
  exact ⟨rfl, rfl⟩
def codeF : Nat → Nat → List UInt8
  | 0, _ => []
  | f + 1, n => if n < 2 then [] else codeF f (n / 2) ++ [if n % 2 = 0 then 48 else 49]
def codeL (k : Nat) : List UInt8 := codeF 8 (k + 2)
def codeS (k : Nat) : ByteArray := ⟨(codeL k).toArray⟩
theorem and_one : ∀ u : Fin 28, bits BinOp.and IntKind.u64 ((u : Nat) : Int) 1 = (((u : Nat) % 2 : Nat) : Int) := by decide +kernel
theorem zsize : Tryz.zeroCells272.size = 65 := by kernel_rfl
theorem dig0 : ({ data := #[48, 49, 50, 51, 52, 53, 54, 55, 56, 57, 97, 98, 99, 100, 101, 102, 103, 104, 105, 106, 107, 108, 109, 110, 111, 112, 113, 114, 115, 116, 117, 118, 119, 120, 121, 122] } : ByteArray)[0].toNat = 48 := rfl
theorem dig1 : ({ data := #[48, 49, 50, 51, 52, 53, 54, 55, 56, 57, 97, 98, 99, 100, 101, 102, 103, 104, 105, 106, 107, 108, 109, 110, 111, 112, 113, 114, 115, 116, 117, 118, 119, 120, 121, 122] } : ByteArray)[1].toNat = 49 := rfl
theorem back (w : World) (C : Array Value) (t : TypeId) (i n : Nat) (l : List UInt8) (hl : l.length = n) (hc : ∀ j b, l[j]? = some b → C[i + j]? = some (.int .u8 (b.toNat : Int))) :
    (convert 22 9 (.slice (some ⟨w.heap.size, i, none⟩) n n)).run Tryz.prog (w.alloc (.cells C t)) = .ok (.string ⟨l.toArray⟩) (w.alloc (.cells C t)) := by
  subst hl
  refine run_convert_bytes_back _ 22 9 5 ⟨w.heap.size, i, none⟩ l.length l Tryz.underlying22 Tryz.underlying5 Tryz.underlying9 ?_
  intro j hj
  have e : (⟨w.heap.size, i, none⟩ : Addr).add j = ⟨w.heap.size, i + j, none⟩ := by
    by_cases h0 : j = 0
    · subst h0; simp [Addr.add]
    · simp [Addr.add, h0]
  rw [e, cell_of_row _ _ _ _ _ _ (heap_alloc_new w _)]
  exact hc j _ (List.getElem?_eq_getElem hj)
set_option maxRecDepth 100000 in
set_option maxHeartbeats 1000000 in
theorem fb_2 (w : World) (h : Tz w) : Calls Tryz.prog 163 #[.slice none 0 0, .int .u64 2, .int .i64 2, .bool false, .bool false] w fun e w' => e = .returned (.tuple #[.slice none 0 0, .string ⟨#[49, 48]⟩]) ∧ Below w.heap.size w w' := by
  have H := Lib.hid h
  clear h
  have hz := zsize
  have d0 := dig0
  have d1 := dig1
  have b2 : bits BinOp.and IntKind.u64 2 1 = 0 := and_one 2
  have hcv : ∀ C : Array Value, C[63]? = some (.int .u8 49) → C[64]? = some (.int .u8 48) → (convert 22 9 (.slice (some ⟨w.heap.size, 63, none⟩) 2 2)).run Tryz.prog (w.alloc (.cells C 272)) = .ok (.string ⟨#[49, 48]⟩) (w.alloc (.cells C 272)) := by
    intro C h0 h1
    refine back w C _ 63 2 [49, 48] rfl ?_
    intro j b hb
    match j, hb with
    | 0, hb => cases hb; exact h0
    | 1, hb => cases hb; exact h1
  go_enter Tryz.func163, Tryz.ntmps163
  go_wp2_with (first | (go_at_call 183; refine (tz2 _ ?_).mono ?_; (exact H.out.old ((Below.refl _ _).alloc (Nat.le_refl _) _)); rintro e w' ⟨rfl, rfl⟩) | go_in)
  refine wp_loop_rounds 2 ?_
  rw [rounds_succ]
  go_wp2
  rw [rounds_succ]
  go_wp2
  go_ret2
  exact ⟨rfl, (Below.refl _ _).alloc (Nat.le_refl _) _⟩
set_option maxRecDepth 100000 in
set_option maxHeartbeats 1000000 in
theorem fb_3 (w : World) (h : Tz w) : Calls Tryz.prog 163 #[.slice none 0 0, .int .u64 3, .int .i64 2, .bool false, .bool false] w fun e w' => e = .returned (.tuple #[.slice none 0 0, .string ⟨#[49, 49]⟩]) ∧ Below w.heap.size w w' := by
  have H := Lib.hid h
  clear h
  have hz := zsize
  have d0 := dig0
  have d1 := dig1
  have b3 : bits BinOp.and IntKind.u64 3 1 = 1 := and_one 3
  have hcv : ∀ C : Array Value, C[63]? = some (.int .u8 49) → C[64]? = some (.int .u8 49) → (convert 22 9 (.slice (some ⟨w.heap.size, 63, none⟩) 2 2)).run Tryz.prog (w.alloc (.cells C 272)) = .ok (.string ⟨#[49, 49]⟩) (w.alloc (.cells C 272)) := by
    intro C h0 h1
    refine back w C _ 63 2 [49, 49] rfl ?_
    intro j b hb
    match j, hb with
    | 0, hb => cases hb; exact h0
    | 1, hb => cases hb; exact h1
  go_enter Tryz.func163, Tryz.ntmps163
  go_wp2_with (first | (go_at_call 183; refine (tz2 _ ?_).mono ?_; (exact H.out.old ((Below.refl _ _).alloc (Nat.le_refl _) _)); rintro e w' ⟨rfl, rfl⟩) | go_in)
  refine wp_loop_rounds 2 ?_
  rw [rounds_succ]
  go_wp2
  rw [rounds_succ]
  go_wp2
  go_ret2
  exact ⟨rfl, (Below.refl _ _).alloc (Nat.le_refl _) _⟩
set_option maxRecDepth 100000 in
set_option maxHeartbeats 1000000 in
theorem fb_4 (w : World) (h : Tz w) : Calls Tryz.prog 163 #[.slice none 0 0, .int .u64 4, .int .i64 2, .bool false, .bool false] w fun e w' => e = .returned (.tuple #[.slice none 0 0, .string ⟨#[49, 48, 48]⟩]) ∧ Below w.heap.size w w' := by
  have H := Lib.hid h
  clear h
  have hz := zsize
  have d0 := dig0
  have d1 := dig1
  have b4 : bits BinOp.and IntKind.u64 4 1 = 0 := and_one 4
  have b2 : bits BinOp.and IntKind.u64 2 1 = 0 := and_one 2
  have hcv : ∀ C : Array Value, C[62]? = some (.int .u8 49) → C[63]? = some (.int .u8 48) → C[64]? = some (.int .u8 48) → (convert 22 9 (.slice (some ⟨w.heap.size, 62, none⟩) 3 3)).run Tryz.prog (w.alloc (.cells C 272)) = .ok (.string ⟨#[49, 48, 48]⟩) (w.alloc (.cells C 272)) := by
    intro C h0 h1 h2
    refine back w C _ 62 3 [49, 48, 48] rfl ?_
    intro j b hb
    match j, hb with
    | 0, hb => cases hb; exact h0
    | 1, hb => cases hb; exact h1
    | 2, hb => cases hb; exact h2
  go_enter Tryz.func163, Tryz.ntmps163
  go_wp2_with (first | (go_at_call 183; refine (tz2 _ ?_).mono ?_; (exact H.out.old ((Below.refl _ _).alloc (Nat.le_refl _) _)); rintro e w' ⟨rfl, rfl⟩) | go_in)
  refine wp_loop_rounds 3 ?_
  rw [rounds_succ]
  go_wp2
  rw [rounds_succ]
  go_wp2
  rw [rounds_succ]
  go_wp2
  go_ret2
  exact ⟨rfl, (Below.refl _ _).alloc (Nat.le_refl _) _⟩
set_option maxRecDepth 100000 in
set_option maxHeartbeats 1000000 in
theorem fb_5 (w : World) (h : Tz w) : Calls Tryz.prog 163 #[.slice none 0 0, .int .u64 5, .int .i64 2, .bool false, .bool false] w fun e w' => e = .returned (.tuple #[.slice none 0 0, .string ⟨#[49, 48, 49]⟩]) ∧ Below w.heap.size w w' := by
  have H := Lib.hid h
  clear h
  have hz := zsize
  have d0 := dig0
  have d1 := dig1
  have b5 : bits BinOp.and IntKind.u64 5 1 = 1 := and_one 5
  have b2 : bits BinOp.and IntKind.u64 2 1 = 0 := and_one 2
  have hcv : ∀ C : Array Value, C[62]? = some (.int .u8 49) → C[63]? = some (.int .u8 48) → C[64]? = some (.int .u8 49) → (convert 22 9 (.slice (some ⟨w.heap.size, 62, none⟩) 3 3)).run Tryz.prog (w.alloc (.cells C 272)) = .ok (.string ⟨#[49, 48, 49]⟩) (w.alloc (.cells C 272)) := by
    intro C h0 h1 h2
    refine back w C _ 62 3 [49, 48, 49] rfl ?_
    intro j b hb
    match j, hb with
    | 0, hb => cases hb; exact h0
    | 1, hb => cases hb; exact h1
    | 2, hb => cases hb; exact h2
  go_enter Tryz.func163, Tryz.ntmps163
  go_wp2_with (first | (go_at_call 183; refine (tz2 _ ?_).mono ?_; (exact H.out.old ((Below.refl _ _).alloc (Nat.le_refl _) _)); rintro e w' ⟨rfl, rfl⟩) | go_in)
  refine wp_loop_rounds 3 ?_
  rw [rounds_succ]
  go_wp2
  rw [rounds_succ]
  go_wp2
  rw [rounds_succ]
  go_wp2
  go_ret2
  exact ⟨rfl, (Below.refl _ _).alloc (Nat.le_refl _) _⟩
set_option maxRecDepth 100000 in
set_option maxHeartbeats 1000000 in
theorem fb_6 (w : World) (h : Tz w) : Calls Tryz.prog 163 #[.slice none 0 0, .int .u64 6, .int .i64 2, .bool false, .bool false] w fun e w' => e = .returned (.tuple #[.slice none 0 0, .string ⟨#[49, 49, 48]⟩]) ∧ Below w.heap.size w w' := by
  have H := Lib.hid h
  clear h
  have hz := zsize
  have d0 := dig0
  have d1 := dig1
  have b6 : bits BinOp.and IntKind.u64 6 1 = 0 := and_one 6
  have b3 : bits BinOp.and IntKind.u64 3 1 = 1 := and_one 3
  have hcv : ∀ C : Array Value, C[62]? = some (.int .u8 49) → C[63]? = some (.int .u8 49) → C[64]? = some (.int .u8 48) → (convert 22 9 (.slice (some ⟨w.heap.size, 62, none⟩) 3 3)).run Tryz.prog (w.alloc (.cells C 272)) = .ok (.string ⟨#[49, 49, 48]⟩) (w.alloc (.cells C 272)) := by
    intro C h0 h1 h2
    refine back w C _ 62 3 [49, 49, 48] rfl ?_
    intro j b hb
    match j, hb with
    | 0, hb => cases hb; exact h0
    | 1, hb => cases hb; exact h1
    | 2, hb => cases hb; exact h2
  go_enter Tryz.func163, Tryz.ntmps163
  go_wp2_with (first | (go_at_call 183; refine (tz2 _ ?_).mono ?_; (exact H.out.old ((Below.refl _ _).alloc (Nat.le_refl _) _)); rintro e w' ⟨rfl, rfl⟩) | go_in)
  refine wp_loop_rounds 3 ?_
  rw [rounds_succ]
  go_wp2
  rw [rounds_succ]
  go_wp2
  rw [rounds_succ]
  go_wp2
  go_ret2
  exact ⟨rfl, (Below.refl _ _).alloc (Nat.le_refl _) _⟩
set_option maxRecDepth 100000 in
set_option maxHeartbeats 1000000 in
theorem fb_7 (w : World) (h : Tz w) : Calls Tryz.prog 163 #[.slice none 0 0, .int .u64 7, .int .i64 2, .bool false, .bool false] w fun e w' => e = .returned (.tuple #[.slice none 0 0, .string ⟨#[49, 49, 49]⟩]) ∧ Below w.heap.size w w' := by
  have H := Lib.hid h
  clear h
  have hz := zsize
  have d0 := dig0
  have d1 := dig1
  have b7 : bits BinOp.and IntKind.u64 7 1 = 1 := and_one 7
  have b3 : bits BinOp.and IntKind.u64 3 1 = 1 := and_one 3
  have hcv : ∀ C : Array Value, C[62]? = some (.int .u8 49) → C[63]? = some (.int .u8 49) → C[64]? = some (.int .u8 49) → (convert 22 9 (.slice (some ⟨w.heap.size, 62, none⟩) 3 3)).run Tryz.prog (w.alloc (.cells C 272)) = .ok (.string ⟨#[49, 49, 49]⟩) (w.alloc (.cells C 272)) := by
    intro C h0 h1 h2
    refine back w C _ 62 3 [49, 49, 49] rfl ?_
    intro j b hb
    match j, hb with
    | 0, hb => cases hb; exact h0
    | 1, hb => cases hb; exact h1
    | 2, hb => cases hb; exact h2
  go_enter Tryz.func163, Tryz.ntmps163
  go_wp2_with (first | (go_at_call 183; refine (tz2 _ ?_).mono ?_; (exact H.out.old ((Below.refl _ _).alloc (Nat.le_refl _) _)); rintro e w' ⟨rfl, rfl⟩) | go_in)
  refine wp_loop_rounds 3 ?_
  rw [rounds_succ]
  go_wp2
  rw [rounds_succ]
  go_wp2
  rw [rounds_succ]
  go_wp2
  go_ret2
  exact ⟨rfl, (Below.refl _ _).alloc (Nat.le_refl _) _⟩
set_option maxRecDepth 100000 in
set_option maxHeartbeats 1000000 in
theorem fb_8 (w : World) (h : Tz w) : Calls Tryz.prog 163 #[.slice none 0 0, .int .u64 8, .int .i64 2, .bool false, .bool false] w fun e w' => e = .returned (.tuple #[.slice none 0 0, .string ⟨#[49, 48, 48, 48]⟩]) ∧ Below w.heap.size w w' := by
  have H := Lib.hid h
  clear h
  have hz := zsize
  have d0 := dig0
  have d1 := dig1
  have b8 : bits BinOp.and IntKind.u64 8 1 = 0 := and_one 8
  have b4 : bits BinOp.and IntKind.u64 4 1 = 0 := and_one 4
  have b2 : bits BinOp.and IntKind.u64 2 1 = 0 := and_one 2
  have hcv : ∀ C : Array Value, C[61]? = some (.int .u8 49) → C[62]? = some (.int .u8 48) → C[63]? = some (.int .u8 48) → C[64]? = some (.int .u8 48) → (convert 22 9 (.slice (some ⟨w.heap.size, 61, none⟩) 4 4)).run Tryz.prog (w.alloc (.cells C 272)) = .ok (.string ⟨#[49, 48, 48, 48]⟩) (w.alloc (.cells C 272)) := by
    intro C h0 h1 h2 h3
    refine back w C _ 61 4 [49, 48, 48, 48] rfl ?_
    intro j b hb
    match j, hb with
    | 0, hb => cases hb; exact h0
    | 1, hb => cases hb; exact h1
    | 2, hb => cases hb; exact h2
    | 3, hb => cases hb; exact h3
  go_enter Tryz.func163, Tryz.ntmps163
  go_wp2_with (first | (go_at_call 183; refine (tz2 _ ?_).mono ?_; (exact H.out.old ((Below.refl _ _).alloc (Nat.le_refl _) _)); rintro e w' ⟨rfl, rfl⟩) | go_in)
  refine wp_loop_rounds 4 ?_
  rw [rounds_succ]
  go_wp2
  rw [rounds_succ]
  go_wp2
  rw [rounds_succ]
  go_wp2
  rw [rounds_succ]
  go_wp2
  go_ret2
  exact ⟨rfl, (Below.refl _ _).alloc (Nat.le_refl _) _⟩
set_option maxRecDepth 100000 in
set_option maxHeartbeats 1000000 in
theorem fb_9 (w : World) (h : Tz w) : Calls Tryz.prog 163 #[.slice none 0 0, .int .u64 9, .int .i64 2, .bool false, .bool false] w fun e w' => e = .returned (.tuple #[.slice none 0 0, .string ⟨#[49, 48, 48, 49]⟩]) ∧ Below w.heap.size w w' := by
  have H := Lib.hid h
  clear h
  have hz := zsize
  have d0 := dig0
  have d1 := dig1
  have b9 : bits BinOp.and IntKind.u64 9 1 = 1 := and_one 9
  have b4 : bits BinOp.and IntKind.u64 4 1 = 0 := and_one 4
  have b2 : bits BinOp.and IntKind.u64 2 1 = 0 := and_one 2
  have hcv : ∀ C : Array Value, C[61]? = some (.int .u8 49) → C[62]? = some (.int .u8 48) → C[63]? = some (.int .u8 48) → C[64]? = some (.int .u8 49) → (convert 22 9 (.slice (some ⟨w.heap.size, 61, none⟩) 4 4)).run Tryz.prog (w.alloc (.cells C 272)) = .ok (.string ⟨#[49, 48, 48, 49]⟩) (w.alloc (.cells C 272)) := by
    intro C h0 h1 h2 h3
    refine back w C _ 61 4 [49, 48, 48, 49] rfl ?_
    intro j b hb
    match j, hb with
    | 0, hb => cases hb; exact h0
    | 1, hb => cases hb; exact h1
    | 2, hb => cases hb; exact h2
    | 3, hb => cases hb; exact h3
  go_enter Tryz.func163, Tryz.ntmps163
  go_wp2_with (first | (go_at_call 183; refine (tz2 _ ?_).mono ?_; (exact H.out.old ((Below.refl _ _).alloc (Nat.le_refl _) _)); rintro e w' ⟨rfl, rfl⟩) | go_in)
  refine wp_loop_rounds 4 ?_
  rw [rounds_succ]
  go_wp2
  rw [rounds_succ]
  go_wp2
  rw [rounds_succ]
  go_wp2
  rw [rounds_succ]
  go_wp2
  go_ret2
  exact ⟨rfl, (Below.refl _ _).alloc (Nat.le_refl _) _⟩
set_option maxRecDepth 100000 in
set_option maxHeartbeats 1000000 in
theorem fb_10 (w : World) (h : Tz w) : Calls Tryz.prog 163 #[.slice none 0 0, .int .u64 10, .int .i64 2, .bool false, .bool false] w fun e w' => e = .returned (.tuple #[.slice none 0 0, .string ⟨#[49, 48, 49, 48]⟩]) ∧ Below w.heap.size w w' := by
  have H := Lib.hid h
  clear h
  have hz := zsize
  have d0 := dig0
  have d1 := dig1
  have b10 : bits BinOp.and IntKind.u64 10 1 = 0 := and_one 10
  have b5 : bits BinOp.and IntKind.u64 5 1 = 1 := and_one 5
  have b2 : bits BinOp.and IntKind.u64 2 1 = 0 := and_one 2
  have hcv : ∀ C : Array Value, C[61]? = some (.int .u8 49) → C[62]? = some (.int .u8 48) → C[63]? = some (.int .u8 49) → C[64]? = some (.int .u8 48) → (convert 22 9 (.slice (some ⟨w.heap.size, 61, none⟩) 4 4)).run Tryz.prog (w.alloc (.cells C 272)) = .ok (.string ⟨#[49, 48, 49, 48]⟩) (w.alloc (.cells C 272)) := by
    intro C h0 h1 h2 h3
    refine back w C _ 61 4 [49, 48, 49, 48] rfl ?_
    intro j b hb
    match j, hb with
    | 0, hb => cases hb; exact h0
    | 1, hb => cases hb; exact h1
    | 2, hb => cases hb; exact h2
    | 3, hb => cases hb; exact h3
  go_enter Tryz.func163, Tryz.ntmps163
  go_wp2_with (first | (go_at_call 183; refine (tz2 _ ?_).mono ?_; (exact H.out.old ((Below.refl _ _).alloc (Nat.le_refl _) _)); rintro e w' ⟨rfl, rfl⟩) | go_in)
  refine wp_loop_rounds 4 ?_
  rw [rounds_succ]
  go_wp2
  rw [rounds_succ]
  go_wp2
  rw [rounds_succ]
  go_wp2
  rw [rounds_succ]
  go_wp2
  go_ret2
  exact ⟨rfl, (Below.refl _ _).alloc (Nat.le_refl _) _⟩
set_option maxRecDepth 100000 in
set_option maxHeartbeats 1000000 in
theorem fb_11 (w : World) (h : Tz w) : Calls Tryz.prog 163 #[.slice none 0 0, .int .u64 11, .int .i64 2, .bool false, .bool false] w fun e w' => e = .returned (.tuple #[.slice none 0 0, .string ⟨#[49, 48, 49, 49]⟩]) ∧ Below w.heap.size w w' := by
  have H := Lib.hid h
  clear h
  have hz := zsize
  have d0 := dig0
  have d1 := dig1
  have b11 : bits BinOp.and IntKind.u64 11 1 = 1 := and_one 11
  have b5 : bits BinOp.and IntKind.u64 5 1 = 1 := and_one 5
  have b2 : bits BinOp.and IntKind.u64 2 1 = 0 := and_one 2
  have hcv : ∀ C : Array Value, C[61]? = some (.int .u8 49) → C[62]? = some (.int .u8 48) → C[63]? = some (.int .u8 49) → C[64]? = some (.int .u8 49) → (convert 22 9 (.slice (some ⟨w.heap.size, 61, none⟩) 4 4)).run Tryz.prog (w.alloc (.cells C 272)) = .ok (.string ⟨#[49, 48, 49, 49]⟩) (w.alloc (.cells C 272)) := by
    intro C h0 h1 h2 h3
    refine back w C _ 61 4 [49, 48, 49, 49] rfl ?_
    intro j b hb
    match j, hb with
    | 0, hb => cases hb; exact h0
    | 1, hb => cases hb; exact h1
    | 2, hb => cases hb; exact h2
    | 3, hb => cases hb; exact h3
  go_enter Tryz.func163, Tryz.ntmps163
  go_wp2_with (first | (go_at_call 183; refine (tz2 _ ?_).mono ?_; (exact H.out.old ((Below.refl _ _).alloc (Nat.le_refl _) _)); rintro e w' ⟨rfl, rfl⟩) | go_in)
  refine wp_loop_rounds 4 ?_
  rw [rounds_succ]
  go_wp2
  rw [rounds_succ]
  go_wp2
  rw [rounds_succ]
  go_wp2
  rw [rounds_succ]
  go_wp2
  go_ret2
  exact ⟨rfl, (Below.refl _ _).alloc (Nat.le_refl _) _⟩
set_option maxRecDepth 100000 in
set_option maxHeartbeats 1000000 in
theorem fb_12 (w : World) (h : Tz w) : Calls Tryz.prog 163 #[.slice none 0 0, .int .u64 12, .int .i64 2, .bool false, .bool false] w fun e w' => e = .returned (.tuple #[.slice none 0 0, .string ⟨#[49, 49, 48, 48]⟩]) ∧ Below w.heap.size w w' := by
  have H := Lib.hid h
  clear h
  have hz := zsize
  have d0 := dig0
  have d1 := dig1
  have b12 : bits BinOp.and IntKind.u64 12 1 = 0 := and_one 12
  have b6 : bits BinOp.and IntKind.u64 6 1 = 0 := and_one 6
  have b3 : bits BinOp.and IntKind.u64 3 1 = 1 := and_one 3
  have hcv : ∀ C : Array Value, C[61]? = some (.int .u8 49) → C[62]? = some (.int .u8 49) → C[63]? = some (.int .u8 48) → C[64]? = some (.int .u8 48) → (convert 22 9 (.slice (some ⟨w.heap.size, 61, none⟩) 4 4)).run Tryz.prog (w.alloc (.cells C 272)) = .ok (.string ⟨#[49, 49, 48, 48]⟩) (w.alloc (.cells C 272)) := by
    intro C h0 h1 h2 h3
    refine back w C _ 61 4 [49, 49, 48, 48] rfl ?_
    intro j b hb
    match j, hb with
    | 0, hb => cases hb; exact h0
    | 1, hb => cases hb; exact h1
    | 2, hb => cases hb; exact h2
    | 3, hb => cases hb; exact h3
  go_enter Tryz.func163, Tryz.ntmps163
  go_wp2_with (first | (go_at_call 183; refine (tz2 _ ?_).mono ?_; (exact H.out.old ((Below.refl _ _).alloc (Nat.le_refl _) _)); rintro e w' ⟨rfl, rfl⟩) | go_in)
  refine wp_loop_rounds 4 ?_
  rw [rounds_succ]
  go_wp2
  rw [rounds_succ]
  go_wp2
  rw [rounds_succ]
  go_wp2
  rw [rounds_succ]
  go_wp2
  go_ret2
  exact ⟨rfl, (Below.refl _ _).alloc (Nat.le_refl _) _⟩
set_option maxRecDepth 100000 in
set_option maxHeartbeats 1000000 in
theorem fb_13 (w : World) (h : Tz w) : Calls Tryz.prog 163 #[.slice none 0 0, .int .u64 13, .int .i64 2, .bool false, .bool false] w fun e w' => e = .returned (.tuple #[.slice none 0 0, .string ⟨#[49, 49, 48, 49]⟩]) ∧ Below w.heap.size w w' := by
  have H := Lib.hid h
  clear h
  have hz := zsize
  have d0 := dig0
  have d1 := dig1
  have b13 : bits BinOp.and IntKind.u64 13 1 = 1 := and_one 13
  have b6 : bits BinOp.and IntKind.u64 6 1 = 0 := and_one 6
  have b3 : bits BinOp.and IntKind.u64 3 1 = 1 := and_one 3
  have hcv : ∀ C : Array Value, C[61]? = some (.int .u8 49) → C[62]? = some (.int .u8 49) → C[63]? = some (.int .u8 48) → C[64]? = some (.int .u8 49) → (convert 22 9 (.slice (some ⟨w.heap.size, 61, none⟩) 4 4)).run Tryz.prog (w.alloc (.cells C 272)) = .ok (.string ⟨#[49, 49, 48, 49]⟩) (w.alloc (.cells C 272)) := by
    intro C h0 h1 h2 h3
    refine back w C _ 61 4 [49, 49, 48, 49] rfl ?_
    intro j b hb
    match j, hb with
    | 0, hb => cases hb; exact h0
    | 1, hb => cases hb; exact h1
    | 2, hb => cases hb; exact h2
    | 3, hb => cases hb; exact h3
  go_enter Tryz.func163, Tryz.ntmps163
  go_wp2_with (first | (go_at_call 183; refine (tz2 _ ?_).mono ?_; (exact H.out.old ((Below.refl _ _).alloc (Nat.le_refl _) _)); rintro e w' ⟨rfl, rfl⟩) | go_in)
  refine wp_loop_rounds 4 ?_
  rw [rounds_succ]
  go_wp2
  rw [rounds_succ]
  go_wp2
  rw [rounds_succ]
  go_wp2
  rw [rounds_succ]
  go_wp2
  go_ret2
  exact ⟨rfl, (Below.refl _ _).alloc (Nat.le_refl _) _⟩
set_option maxRecDepth 100000 in
set_option maxHeartbeats 1000000 in
theorem fb_14 (w : World) (h : Tz w) : Calls Tryz.prog 163 #[.slice none 0 0, .int .u64 14, .int .i64 2, .bool false, .bool false] w fun e w' => e = .returned (.tuple #[.slice none 0 0, .string ⟨#[49, 49, 49, 48]⟩]) ∧ Below w.heap.size w w' := by
  have H := Lib.hid h
  clear h
  have hz := zsize
  have d0 := dig0
  have d1 := dig1
  have b14 : bits BinOp.and IntKind.u64 14 1 = 0 := and_one 14
  have b7 : bits BinOp.and IntKind.u64 7 1 = 1 := and_one 7
  have b3 : bits BinOp.and IntKind.u64 3 1 = 1 := and_one 3
  have hcv : ∀ C : Array Value, C[61]? = some (.int .u8 49) → C[62]? = some (.int .u8 49) → C[63]? = some (.int .u8 49) → C[64]? = some (.int .u8 48) → (convert 22 9 (.slice (some ⟨w.heap.size, 61, none⟩) 4 4)).run Tryz.prog (w.alloc (.cells C 272)) = .ok (.string ⟨#[49, 49, 49, 48]⟩) (w.alloc (.cells C 272)) := by
    intro C h0 h1 h2 h3
    refine back w C _ 61 4 [49, 49, 49, 48] rfl ?_
    intro j b hb
    match j, hb with
    | 0, hb => cases hb; exact h0
    | 1, hb => cases hb; exact h1
    | 2, hb => cases hb; exact h2
    | 3, hb => cases hb; exact h3
  go_enter Tryz.func163, Tryz.ntmps163
  go_wp2_with (first | (go_at_call 183; refine (tz2 _ ?_).mono ?_; (exact H.out.old ((Below.refl _ _).alloc (Nat.le_refl _) _)); rintro e w' ⟨rfl, rfl⟩) | go_in)
  refine wp_loop_rounds 4 ?_
  rw [rounds_succ]
  go_wp2
  rw [rounds_succ]
  go_wp2
  rw [rounds_succ]
  go_wp2
  rw [rounds_succ]
  go_wp2
  go_ret2
  exact ⟨rfl, (Below.refl _ _).alloc (Nat.le_refl _) _⟩
set_option maxRecDepth 100000 in
set_option maxHeartbeats 1000000 in
theorem fb_15 (w : World) (h : Tz w) : Calls Tryz.prog 163 #[.slice none 0 0, .int .u64 15, .int .i64 2, .bool false, .bool false] w fun e w' => e = .returned (.tuple #[.slice none 0 0, .string ⟨#[49, 49, 49, 49]⟩]) ∧ Below w.heap.size w w' := by
  have H := Lib.hid h
  clear h
  have hz := zsize
  have d0 := dig0
  have d1 := dig1
  have b15 : bits BinOp.and IntKind.u64 15 1 = 1 := and_one 15
  have b7 : bits BinOp.and IntKind.u64 7 1 = 1 := and_one 7
  have b3 : bits BinOp.and IntKind.u64 3 1 = 1 := and_one 3
  have hcv : ∀ C : Array Value, C[61]? = some (.int .u8 49) → C[62]? = some (.int .u8 49) → C[63]? = some (.int .u8 49) → C[64]? = some (.int .u8 49) → (convert 22 9 (.slice (some ⟨w.heap.size, 61, none⟩) 4 4)).run Tryz.prog (w.alloc (.cells C 272)) = .ok (.string ⟨#[49, 49, 49, 49]⟩) (w.alloc (.cells C 272)) := by
    intro C h0 h1 h2 h3
    refine back w C _ 61 4 [49, 49, 49, 49] rfl ?_
    intro j b hb
    match j, hb with
    | 0, hb => cases hb; exact h0
    | 1, hb => cases hb; exact h1
    | 2, hb => cases hb; exact h2
    | 3, hb => cases hb; exact h3
  go_enter Tryz.func163, Tryz.ntmps163
  go_wp2_with (first | (go_at_call 183; refine (tz2 _ ?_).mono ?_; (exact H.out.old ((Below.refl _ _).alloc (Nat.le_refl _) _)); rintro e w' ⟨rfl, rfl⟩) | go_in)
  refine wp_loop_rounds 4 ?_
  rw [rounds_succ]
  go_wp2
  rw [rounds_succ]
  go_wp2
  rw [rounds_succ]
  go_wp2
  rw [rounds_succ]
  go_wp2
  go_ret2
  exact ⟨rfl, (Below.refl _ _).alloc (Nat.le_refl _) _⟩
set_option maxRecDepth 100000 in
set_option maxHeartbeats 1000000 in
theorem fb_16 (w : World) (h : Tz w) : Calls Tryz.prog 163 #[.slice none 0 0, .int .u64 16, .int .i64 2, .bool false, .bool false] w fun e w' => e = .returned (.tuple #[.slice none 0 0, .string ⟨#[49, 48, 48, 48, 48]⟩]) ∧ Below w.heap.size w w' := by
  have H := Lib.hid h
  clear h
  have hz := zsize
  have d0 := dig0
  have d1 := dig1
  have b16 : bits BinOp.and IntKind.u64 16 1 = 0 := and_one 16
  have b8 : bits BinOp.and IntKind.u64 8 1 = 0 := and_one 8
  have b4 : bits BinOp.and IntKind.u64 4 1 = 0 := and_one 4
  have b2 : bits BinOp.and IntKind.u64 2 1 = 0 := and_one 2
  have hcv : ∀ C : Array Value, C[60]? = some (.int .u8 49) → C[61]? = some (.int .u8 48) → C[62]? = some (.int .u8 48) → C[63]? = some (.int .u8 48) → C[64]? = some (.int .u8 48) → (convert 22 9 (.slice (some ⟨w.heap.size, 60, none⟩) 5 5)).run Tryz.prog (w.alloc (.cells C 272)) = .ok (.string ⟨#[49, 48, 48, 48, 48]⟩) (w.alloc (.cells C 272)) := by
    intro C h0 h1 h2 h3 h4
    refine back w C _ 60 5 [49, 48, 48, 48, 48] rfl ?_
    intro j b hb
    match j, hb with
    | 0, hb => cases hb; exact h0
    | 1, hb => cases hb; exact h1
    | 2, hb => cases hb; exact h2
    | 3, hb => cases hb; exact h3
    | 4, hb => cases hb; exact h4
  go_enter Tryz.func163, Tryz.ntmps163
  go_wp2_with (first | (go_at_call 183; refine (tz2 _ ?_).mono ?_; (exact H.out.old ((Below.refl _ _).alloc (Nat.le_refl _) _)); rintro e w' ⟨rfl, rfl⟩) | go_in)
  refine wp_loop_rounds 5 ?_
  rw [rounds_succ]
  go_wp2
  rw [rounds_succ]
  go_wp2
  rw [rounds_succ]
  go_wp2
  rw [rounds_succ]
  go_wp2
  rw [rounds_succ]
  go_wp2
  go_ret2
  exact ⟨rfl, (Below.refl _ _).alloc (Nat.le_refl _) _⟩
set_option maxRecDepth 100000 in
set_option maxHeartbeats 1000000 in
theorem fb_17 (w : World) (h : Tz w) : Calls Tryz.prog 163 #[.slice none 0 0, .int .u64 17, .int .i64 2, .bool false, .bool false] w fun e w' => e = .returned (.tuple #[.slice none 0 0, .string ⟨#[49, 48, 48, 48, 49]⟩]) ∧ Below w.heap.size w w' := by
  have H := Lib.hid h
  clear h
  have hz := zsize
  have d0 := dig0
  have d1 := dig1
  have b17 : bits BinOp.and IntKind.u64 17 1 = 1 := and_one 17
  have b8 : bits BinOp.and IntKind.u64 8 1 = 0 := and_one 8
  have b4 : bits BinOp.and IntKind.u64 4 1 = 0 := and_one 4
  have b2 : bits BinOp.and IntKind.u64 2 1 = 0 := and_one 2
  have hcv : ∀ C : Array Value, C[60]? = some (.int .u8 49) → C[61]? = some (.int .u8 48) → C[62]? = some (.int .u8 48) → C[63]? = some (.int .u8 48) → C[64]? = some (.int .u8 49) → (convert 22 9 (.slice (some ⟨w.heap.size, 60, none⟩) 5 5)).run Tryz.prog (w.alloc (.cells C 272)) = .ok (.string ⟨#[49, 48, 48, 48, 49]⟩) (w.alloc (.cells C 272)) := by
    intro C h0 h1 h2 h3 h4
    refine back w C _ 60 5 [49, 48, 48, 48, 49] rfl ?_
    intro j b hb
    match j, hb with
    | 0, hb => cases hb; exact h0
    | 1, hb => cases hb; exact h1
    | 2, hb => cases hb; exact h2
    | 3, hb => cases hb; exact h3
    | 4, hb => cases hb; exact h4
  go_enter Tryz.func163, Tryz.ntmps163
  go_wp2_with (first | (go_at_call 183; refine (tz2 _ ?_).mono ?_; (exact H.out.old ((Below.refl _ _).alloc (Nat.le_refl _) _)); rintro e w' ⟨rfl, rfl⟩) | go_in)
  refine wp_loop_rounds 5 ?_
  rw [rounds_succ]
  go_wp2
  rw [rounds_succ]
  go_wp2
  rw [rounds_succ]
  go_wp2
  rw [rounds_succ]
  go_wp2
  rw [rounds_succ]
  go_wp2
  go_ret2
  exact ⟨rfl, (Below.refl _ _).alloc (Nat.le_refl _) _⟩
set_option maxRecDepth 100000 in
set_option maxHeartbeats 1000000 in
theorem fb_18 (w : World) (h : Tz w) : Calls Tryz.prog 163 #[.slice none 0 0, .int .u64 18, .int .i64 2, .bool false, .bool false] w fun e w' => e = .returned (.tuple #[.slice none 0 0, .string ⟨#[49, 48, 48, 49, 48]⟩]) ∧ Below w.heap.size w w' := by
  have H := Lib.hid h
  clear h
  have hz := zsize
  have d0 := dig0
  have d1 := dig1
  have b18 : bits BinOp.and IntKind.u64 18 1 = 0 := and_one 18
  have b9 : bits BinOp.and IntKind.u64 9 1 = 1 := and_one 9
  have b4 : bits BinOp.and IntKind.u64 4 1 = 0 := and_one 4
  have b2 : bits BinOp.and IntKind.u64 2 1 = 0 := and_one 2
  have hcv : ∀ C : Array Value, C[60]? = some (.int .u8 49) → C[61]? = some (.int .u8 48) → C[62]? = some (.int .u8 48) → C[63]? = some (.int .u8 49) → C[64]? = some (.int .u8 48) → (convert 22 9 (.slice (some ⟨w.heap.size, 60, none⟩) 5 5)).run Tryz.prog (w.alloc (.cells C 272)) = .ok (.string ⟨#[49, 48, 48, 49, 48]⟩) (w.alloc (.cells C 272)) := by
    intro C h0 h1 h2 h3 h4
    refine back w C _ 60 5 [49, 48, 48, 49, 48] rfl ?_
    intro j b hb
    match j, hb with
    | 0, hb => cases hb; exact h0
    | 1, hb => cases hb; exact h1
    | 2, hb => cases hb; exact h2
    | 3, hb => cases hb; exact h3
    | 4, hb => cases hb; exact h4
  go_enter Tryz.func163, Tryz.ntmps163
  go_wp2_with (first | (go_at_call 183; refine (tz2 _ ?_).mono ?_; (exact H.out.old ((Below.refl _ _).alloc (Nat.le_refl _) _)); rintro e w' ⟨rfl, rfl⟩) | go_in)
  refine wp_loop_rounds 5 ?_
  rw [rounds_succ]
  go_wp2
  rw [rounds_succ]
  go_wp2
  rw [rounds_succ]
  go_wp2
  rw [rounds_succ]
  go_wp2
  rw [rounds_succ]
  go_wp2
  go_ret2
  exact ⟨rfl, (Below.refl _ _).alloc (Nat.le_refl _) _⟩
set_option maxRecDepth 100000 in
set_option maxHeartbeats 1000000 in
theorem fb_19 (w : World) (h : Tz w) : Calls Tryz.prog 163 #[.slice none 0 0, .int .u64 19, .int .i64 2, .bool false, .bool false] w fun e w' => e = .returned (.tuple #[.slice none 0 0, .string ⟨#[49, 48, 48, 49, 49]⟩]) ∧ Below w.heap.size w w' := by
  have H := Lib.hid h
  clear h
  have hz := zsize
  have d0 := dig0
  have d1 := dig1
  have b19 : bits BinOp.and IntKind.u64 19 1 = 1 := and_one 19
  have b9 : bits BinOp.and IntKind.u64 9 1 = 1 := and_one 9
  have b4 : bits BinOp.and IntKind.u64 4 1 = 0 := and_one 4
  have b2 : bits BinOp.and IntKind.u64 2 1 = 0 := and_one 2
  have hcv : ∀ C : Array Value, C[60]? = some (.int .u8 49) → C[61]? = some (.int .u8 48) → C[62]? = some (.int .u8 48) → C[63]? = some (.int .u8 49) → C[64]? = some (.int .u8 49) → (convert 22 9 (.slice (some ⟨w.heap.size, 60, none⟩) 5 5)).run Tryz.prog (w.alloc (.cells C 272)) = .ok (.string ⟨#[49, 48, 48, 49, 49]⟩) (w.alloc (.cells C 272)) := by
    intro C h0 h1 h2 h3 h4
    refine back w C _ 60 5 [49, 48, 48, 49, 49] rfl ?_
    intro j b hb
    match j, hb with
    | 0, hb => cases hb; exact h0
    | 1, hb => cases hb; exact h1
    | 2, hb => cases hb; exact h2
    | 3, hb => cases hb; exact h3
    | 4, hb => cases hb; exact h4
  go_enter Tryz.func163, Tryz.ntmps163
  go_wp2_with (first | (go_at_call 183; refine (tz2 _ ?_).mono ?_; (exact H.out.old ((Below.refl _ _).alloc (Nat.le_refl _) _)); rintro e w' ⟨rfl, rfl⟩) | go_in)
  refine wp_loop_rounds 5 ?_
  rw [rounds_succ]
  go_wp2
  rw [rounds_succ]
  go_wp2
  rw [rounds_succ]
  go_wp2
  rw [rounds_succ]
  go_wp2
  rw [rounds_succ]
  go_wp2
  go_ret2
  exact ⟨rfl, (Below.refl _ _).alloc (Nat.le_refl _) _⟩
set_option maxRecDepth 100000 in
set_option maxHeartbeats 1000000 in
theorem fb_20 (w : World) (h : Tz w) : Calls Tryz.prog 163 #[.slice none 0 0, .int .u64 20, .int .i64 2, .bool false, .bool false] w fun e w' => e = .returned (.tuple #[.slice none 0 0, .string ⟨#[49, 48, 49, 48, 48]⟩]) ∧ Below w.heap.size w w' := by
  have H := Lib.hid h
  clear h
  have hz := zsize
  have d0 := dig0
  have d1 := dig1
  have b20 : bits BinOp.and IntKind.u64 20 1 = 0 := and_one 20
  have b10 : bits BinOp.and IntKind.u64 10 1 = 0 := and_one 10
  have b5 : bits BinOp.and IntKind.u64 5 1 = 1 := and_one 5
  have b2 : bits BinOp.and IntKind.u64 2 1 = 0 := and_one 2
  have hcv : ∀ C : Array Value, C[60]? = some (.int .u8 49) → C[61]? = some (.int .u8 48) → C[62]? = some (.int .u8 49) → C[63]? = some (.int .u8 48) → C[64]? = some (.int .u8 48) → (convert 22 9 (.slice (some ⟨w.heap.size, 60, none⟩) 5 5)).run Tryz.prog (w.alloc (.cells C 272)) = .ok (.string ⟨#[49, 48, 49, 48, 48]⟩) (w.alloc (.cells C 272)) := by
    intro C h0 h1 h2 h3 h4
    refine back w C _ 60 5 [49, 48, 49, 48, 48] rfl ?_
    intro j b hb
    match j, hb with
    | 0, hb => cases hb; exact h0
    | 1, hb => cases hb; exact h1
    | 2, hb => cases hb; exact h2
    | 3, hb => cases hb; exact h3
    | 4, hb => cases hb; exact h4
  go_enter Tryz.func163, Tryz.ntmps163
  go_wp2_with (first | (go_at_call 183; refine (tz2 _ ?_).mono ?_; (exact H.out.old ((Below.refl _ _).alloc (Nat.le_refl _) _)); rintro e w' ⟨rfl, rfl⟩) | go_in)
  refine wp_loop_rounds 5 ?_
  rw [rounds_succ]
  go_wp2
  rw [rounds_succ]
  go_wp2
  rw [rounds_succ]
  go_wp2
  rw [rounds_succ]
  go_wp2
  rw [rounds_succ]
  go_wp2
  go_ret2
  exact ⟨rfl, (Below.refl _ _).alloc (Nat.le_refl _) _⟩
set_option maxRecDepth 100000 in
set_option maxHeartbeats 1000000 in
theorem fb_21 (w : World) (h : Tz w) : Calls Tryz.prog 163 #[.slice none 0 0, .int .u64 21, .int .i64 2, .bool false, .bool false] w fun e w' => e = .returned (.tuple #[.slice none 0 0, .string ⟨#[49, 48, 49, 48, 49]⟩]) ∧ Below w.heap.size w w' := by
  have H := Lib.hid h
  clear h
  have hz := zsize
  have d0 := dig0
  have d1 := dig1
  have b21 : bits BinOp.and IntKind.u64 21 1 = 1 := and_one 21
  have b10 : bits BinOp.and IntKind.u64 10 1 = 0 := and_one 10
  have b5 : bits BinOp.and IntKind.u64 5 1 = 1 := and_one 5
  have b2 : bits BinOp.and IntKind.u64 2 1 = 0 := and_one 2
  have hcv : ∀ C : Array Value, C[60]? = some (.int .u8 49) → C[61]? = some (.int .u8 48) → C[62]? = some (.int .u8 49) → C[63]? = some (.int .u8 48) → C[64]? = some (.int .u8 49) → (convert 22 9 (.slice (some ⟨w.heap.size, 60, none⟩) 5 5)).run Tryz.prog (w.alloc (.cells C 272)) = .ok (.string ⟨#[49, 48, 49, 48, 49]⟩) (w.alloc (.cells C 272)) := by
    intro C h0 h1 h2 h3 h4
    refine back w C _ 60 5 [49, 48, 49, 48, 49] rfl ?_
    intro j b hb
    match j, hb with
    | 0, hb => cases hb; exact h0
    | 1, hb => cases hb; exact h1
    | 2, hb => cases hb; exact h2
    | 3, hb => cases hb; exact h3
    | 4, hb => cases hb; exact h4
  go_enter Tryz.func163, Tryz.ntmps163
  go_wp2_with (first | (go_at_call 183; refine (tz2 _ ?_).mono ?_; (exact H.out.old ((Below.refl _ _).alloc (Nat.le_refl _) _)); rintro e w' ⟨rfl, rfl⟩) | go_in)
  refine wp_loop_rounds 5 ?_
  rw [rounds_succ]
  go_wp2
  rw [rounds_succ]
  go_wp2
  rw [rounds_succ]
  go_wp2
  rw [rounds_succ]
  go_wp2
  rw [rounds_succ]
  go_wp2
  go_ret2
  exact ⟨rfl, (Below.refl _ _).alloc (Nat.le_refl _) _⟩
set_option maxRecDepth 100000 in
set_option maxHeartbeats 1000000 in
theorem fb_22 (w : World) (h : Tz w) : Calls Tryz.prog 163 #[.slice none 0 0, .int .u64 22, .int .i64 2, .bool false, .bool false] w fun e w' => e = .returned (.tuple #[.slice none 0 0, .string ⟨#[49, 48, 49, 49, 48]⟩]) ∧ Below w.heap.size w w' := by
  have H := Lib.hid h
  clear h
  have hz := zsize
  have d0 := dig0
  have d1 := dig1
  have b22 : bits BinOp.and IntKind.u64 22 1 = 0 := and_one 22
  have b11 : bits BinOp.and IntKind.u64 11 1 = 1 := and_one 11
  have b5 : bits BinOp.and IntKind.u64 5 1 = 1 := and_one 5
  have b2 : bits BinOp.and IntKind.u64 2 1 = 0 := and_one 2
  have hcv : ∀ C : Array Value, C[60]? = some (.int .u8 49) → C[61]? = some (.int .u8 48) → C[62]? = some (.int .u8 49) → C[63]? = some (.int .u8 49) → C[64]? = some (.int .u8 48) → (convert 22 9 (.slice (some ⟨w.heap.size, 60, none⟩) 5 5)).run Tryz.prog (w.alloc (.cells C 272)) = .ok (.string ⟨#[49, 48, 49, 49, 48]⟩) (w.alloc (.cells C 272)) := by
    intro C h0 h1 h2 h3 h4
    refine back w C _ 60 5 [49, 48, 49, 49, 48] rfl ?_
    intro j b hb
    match j, hb with
    | 0, hb => cases hb; exact h0
    | 1, hb => cases hb; exact h1
    | 2, hb => cases hb; exact h2
    | 3, hb => cases hb; exact h3
    | 4, hb => cases hb; exact h4
  go_enter Tryz.func163, Tryz.ntmps163
  go_wp2_with (first | (go_at_call 183; refine (tz2 _ ?_).mono ?_; (exact H.out.old ((Below.refl _ _).alloc (Nat.le_refl _) _)); rintro e w' ⟨rfl, rfl⟩) | go_in)
  refine wp_loop_rounds 5 ?_
  rw [rounds_succ]
  go_wp2
  rw [rounds_succ]
  go_wp2
  rw [rounds_succ]
  go_wp2
  rw [rounds_succ]
  go_wp2
  rw [rounds_succ]
  go_wp2
  go_ret2
  exact ⟨rfl, (Below.refl _ _).alloc (Nat.le_refl _) _⟩
set_option maxRecDepth 100000 in
set_option maxHeartbeats 1000000 in
theorem fb_23 (w : World) (h : Tz w) : Calls Tryz.prog 163 #[.slice none 0 0, .int .u64 23, .int .i64 2, .bool false, .bool false] w fun e w' => e = .returned (.tuple #[.slice none 0 0, .string ⟨#[49, 48, 49, 49, 49]⟩]) ∧ Below w.heap.size w w' := by
  have H := Lib.hid h
  clear h
  have hz := zsize
  have d0 := dig0
  have d1 := dig1
  have b23 : bits BinOp.and IntKind.u64 23 1 = 1 := and_one 23
  have b11 : bits BinOp.and IntKind.u64 11 1 = 1 := and_one 11
  have b5 : bits BinOp.and IntKind.u64 5 1 = 1 := and_one 5
  have b2 : bits BinOp.and IntKind.u64 2 1 = 0 := and_one 2
  have hcv : ∀ C : Array Value, C[60]? = some (.int .u8 49) → C[61]? = some (.int .u8 48) → C[62]? = some (.int .u8 49) → C[63]? = some (.int .u8 49) → C[64]? = some (.int .u8 49) → (convert 22 9 (.slice (some ⟨w.heap.size, 60, none⟩) 5 5)).run Tryz.prog (w.alloc (.cells C 272)) = .ok (.string ⟨#[49, 48, 49, 49, 49]⟩) (w.alloc (.cells C 272)) := by
    intro C h0 h1 h2 h3 h4
    refine back w C _ 60 5 [49, 48, 49, 49, 49] rfl ?_
    intro j b hb
    match j, hb with
    | 0, hb => cases hb; exact h0
    | 1, hb => cases hb; exact h1
    | 2, hb => cases hb; exact h2
    | 3, hb => cases hb; exact h3
    | 4, hb => cases hb; exact h4
  go_enter Tryz.func163, Tryz.ntmps163
  go_wp2_with (first | (go_at_call 183; refine (tz2 _ ?_).mono ?_; (exact H.out.old ((Below.refl _ _).alloc (Nat.le_refl _) _)); rintro e w' ⟨rfl, rfl⟩) | go_in)
  refine wp_loop_rounds 5 ?_
  rw [rounds_succ]
  go_wp2
  rw [rounds_succ]
  go_wp2
  rw [rounds_succ]
  go_wp2
  rw [rounds_succ]
  go_wp2
  rw [rounds_succ]
  go_wp2
  go_ret2
  exact ⟨rfl, (Below.refl _ _).alloc (Nat.le_refl _) _⟩
set_option maxRecDepth 100000 in
set_option maxHeartbeats 1000000 in
theorem fb_24 (w : World) (h : Tz w) : Calls Tryz.prog 163 #[.slice none 0 0, .int .u64 24, .int .i64 2, .bool false, .bool false] w fun e w' => e = .returned (.tuple #[.slice none 0 0, .string ⟨#[49, 49, 48, 48, 48]⟩]) ∧ Below w.heap.size w w' := by
  have H := Lib.hid h
  clear h
  have hz := zsize
  have d0 := dig0
  have d1 := dig1
  have b24 : bits BinOp.and IntKind.u64 24 1 = 0 := and_one 24
  have b12 : bits BinOp.and IntKind.u64 12 1 = 0 := and_one 12
  have b6 : bits BinOp.and IntKind.u64 6 1 = 0 := and_one 6
  have b3 : bits BinOp.and IntKind.u64 3 1 = 1 := and_one 3
  have hcv : ∀ C : Array Value, C[60]? = some (.int .u8 49) → C[61]? = some (.int .u8 49) → C[62]? = some (.int .u8 48) → C[63]? = some (.int .u8 48) → C[64]? = some (.int .u8 48) → (convert 22 9 (.slice (some ⟨w.heap.size, 60, none⟩) 5 5)).run Tryz.prog (w.alloc (.cells C 272)) = .ok (.string ⟨#[49, 49, 48, 48, 48]⟩) (w.alloc (.cells C 272)) := by
    intro C h0 h1 h2 h3 h4
    refine back w C _ 60 5 [49, 49, 48, 48, 48] rfl ?_
    intro j b hb
    match j, hb with
    | 0, hb => cases hb; exact h0
    | 1, hb => cases hb; exact h1
    | 2, hb => cases hb; exact h2
    | 3, hb => cases hb; exact h3
    | 4, hb => cases hb; exact h4
  go_enter Tryz.func163, Tryz.ntmps163
  go_wp2_with (first | (go_at_call 183; refine (tz2 _ ?_).mono ?_; (exact H.out.old ((Below.refl _ _).alloc (Nat.le_refl _) _)); rintro e w' ⟨rfl, rfl⟩) | go_in)
  refine wp_loop_rounds 5 ?_
  rw [rounds_succ]
  go_wp2
  rw [rounds_succ]
  go_wp2
  rw [rounds_succ]
  go_wp2
  rw [rounds_succ]
  go_wp2
  rw [rounds_succ]
  go_wp2
  go_ret2
  exact ⟨rfl, (Below.refl _ _).alloc (Nat.le_refl _) _⟩
set_option maxRecDepth 100000 in
set_option maxHeartbeats 1000000 in
theorem fb_25 (w : World) (h : Tz w) : Calls Tryz.prog 163 #[.slice none 0 0, .int .u64 25, .int .i64 2, .bool false, .bool false] w fun e w' => e = .returned (.tuple #[.slice none 0 0, .string ⟨#[49, 49, 48, 48, 49]⟩]) ∧ Below w.heap.size w w' := by
  have H := Lib.hid h
  clear h
  have hz := zsize
  have d0 := dig0
  have d1 := dig1
  have b25 : bits BinOp.and IntKind.u64 25 1 = 1 := and_one 25
  have b12 : bits BinOp.and IntKind.u64 12 1 = 0 := and_one 12
  have b6 : bits BinOp.and IntKind.u64 6 1 = 0 := and_one 6
  have b3 : bits BinOp.and IntKind.u64 3 1 = 1 := and_one 3
  have hcv : ∀ C : Array Value, C[60]? = some (.int .u8 49) → C[61]? = some (.int .u8 49) → C[62]? = some (.int .u8 48) → C[63]? = some (.int .u8 48) → C[64]? = some (.int .u8 49) → (convert 22 9 (.slice (some ⟨w.heap.size, 60, none⟩) 5 5)).run Tryz.prog (w.alloc (.cells C 272)) = .ok (.string ⟨#[49, 49, 48, 48, 49]⟩) (w.alloc (.cells C 272)) := by
    intro C h0 h1 h2 h3 h4
    refine back w C _ 60 5 [49, 49, 48, 48, 49] rfl ?_
    intro j b hb
    match j, hb with
    | 0, hb => cases hb; exact h0
    | 1, hb => cases hb; exact h1
    | 2, hb => cases hb; exact h2
    | 3, hb => cases hb; exact h3
    | 4, hb => cases hb; exact h4
  go_enter Tryz.func163, Tryz.ntmps163
  go_wp2_with (first | (go_at_call 183; refine (tz2 _ ?_).mono ?_; (exact H.out.old ((Below.refl _ _).alloc (Nat.le_refl _) _)); rintro e w' ⟨rfl, rfl⟩) | go_in)
  refine wp_loop_rounds 5 ?_
  rw [rounds_succ]
  go_wp2
  rw [rounds_succ]
  go_wp2
  rw [rounds_succ]
  go_wp2
  rw [rounds_succ]
  go_wp2
  rw [rounds_succ]
  go_wp2
  go_ret2
  exact ⟨rfl, (Below.refl _ _).alloc (Nat.le_refl _) _⟩
set_option maxRecDepth 100000 in
set_option maxHeartbeats 1000000 in
theorem fb_26 (w : World) (h : Tz w) : Calls Tryz.prog 163 #[.slice none 0 0, .int .u64 26, .int .i64 2, .bool false, .bool false] w fun e w' => e = .returned (.tuple #[.slice none 0 0, .string ⟨#[49, 49, 48, 49, 48]⟩]) ∧ Below w.heap.size w w' := by
  have H := Lib.hid h
  clear h
  have hz := zsize
  have d0 := dig0
  have d1 := dig1
  have b26 : bits BinOp.and IntKind.u64 26 1 = 0 := and_one 26
  have b13 : bits BinOp.and IntKind.u64 13 1 = 1 := and_one 13
  have b6 : bits BinOp.and IntKind.u64 6 1 = 0 := and_one 6
  have b3 : bits BinOp.and IntKind.u64 3 1 = 1 := and_one 3
  have hcv : ∀ C : Array Value, C[60]? = some (.int .u8 49) → C[61]? = some (.int .u8 49) → C[62]? = some (.int .u8 48) → C[63]? = some (.int .u8 49) → C[64]? = some (.int .u8 48) → (convert 22 9 (.slice (some ⟨w.heap.size, 60, none⟩) 5 5)).run Tryz.prog (w.alloc (.cells C 272)) = .ok (.string ⟨#[49, 49, 48, 49, 48]⟩) (w.alloc (.cells C 272)) := by
    intro C h0 h1 h2 h3 h4
    refine back w C _ 60 5 [49, 49, 48, 49, 48] rfl ?_
    intro j b hb
    match j, hb with
    | 0, hb => cases hb; exact h0
    | 1, hb => cases hb; exact h1
    | 2, hb => cases hb; exact h2
    | 3, hb => cases hb; exact h3
    | 4, hb => cases hb; exact h4
  go_enter Tryz.func163, Tryz.ntmps163
  go_wp2_with (first | (go_at_call 183; refine (tz2 _ ?_).mono ?_; (exact H.out.old ((Below.refl _ _).alloc (Nat.le_refl _) _)); rintro e w' ⟨rfl, rfl⟩) | go_in)
  refine wp_loop_rounds 5 ?_
  rw [rounds_succ]
  go_wp2
  rw [rounds_succ]
  go_wp2
  rw [rounds_succ]
  go_wp2
  rw [rounds_succ]
  go_wp2
  rw [rounds_succ]
  go_wp2
  go_ret2
  exact ⟨rfl, (Below.refl _ _).alloc (Nat.le_refl _) _⟩
set_option maxRecDepth 100000 in
set_option maxHeartbeats 1000000 in
theorem fb_27 (w : World) (h : Tz w) : Calls Tryz.prog 163 #[.slice none 0 0, .int .u64 27, .int .i64 2, .bool false, .bool false] w fun e w' => e = .returned (.tuple #[.slice none 0 0, .string ⟨#[49, 49, 48, 49, 49]⟩]) ∧ Below w.heap.size w w' := by
  have H := Lib.hid h
  clear h
  have hz := zsize
  have d0 := dig0
  have d1 := dig1
  have b27 : bits BinOp.and IntKind.u64 27 1 = 1 := and_one 27
  have b13 : bits BinOp.and IntKind.u64 13 1 = 1 := and_one 13
  have b6 : bits BinOp.and IntKind.u64 6 1 = 0 := and_one 6
  have b3 : bits BinOp.and IntKind.u64 3 1 = 1 := and_one 3
  have hcv : ∀ C : Array Value, C[60]? = some (.int .u8 49) → C[61]? = some (.int .u8 49) → C[62]? = some (.int .u8 48) → C[63]? = some (.int .u8 49) → C[64]? = some (.int .u8 49) → (convert 22 9 (.slice (some ⟨w.heap.size, 60, none⟩) 5 5)).run Tryz.prog (w.alloc (.cells C 272)) = .ok (.string ⟨#[49, 49, 48, 49, 49]⟩) (w.alloc (.cells C 272)) := by
    intro C h0 h1 h2 h3 h4
    refine back w C _ 60 5 [49, 49, 48, 49, 49] rfl ?_
    intro j b hb
    match j, hb with
    | 0, hb => cases hb; exact h0
    | 1, hb => cases hb; exact h1
    | 2, hb => cases hb; exact h2
    | 3, hb => cases hb; exact h3
    | 4, hb => cases hb; exact h4
  go_enter Tryz.func163, Tryz.ntmps163
  go_wp2_with (first | (go_at_call 183; refine (tz2 _ ?_).mono ?_; (exact H.out.old ((Below.refl _ _).alloc (Nat.le_refl _) _)); rintro e w' ⟨rfl, rfl⟩) | go_in)
  refine wp_loop_rounds 5 ?_
  rw [rounds_succ]
  go_wp2
  rw [rounds_succ]
  go_wp2
  rw [rounds_succ]
  go_wp2
  rw [rounds_succ]
  go_wp2
  rw [rounds_succ]
  go_wp2
  go_ret2
  exact ⟨rfl, (Below.refl _ _).alloc (Nat.le_refl _) _⟩
set_option maxRecDepth 100000 in
set_option maxHeartbeats 1000000 in
theorem code_0 (w : World) (h : Tz w) : Calls Tryz.prog 37 #[.int .i64 0] w fun e w' => e = .returned (.string (codeS 0)) ∧ Below w.heap.size w w' := by
  have H := Lib.hid h
  clear h
  go_enter Tryz.func37, Tryz.ntmps37
  go_wp2_with (first | (go_at_call 163; refine (fb_2 _ H.out).mono ?_; rintro e w' ⟨rfl, hb⟩) | go_in)
  go_ret
  exact ⟨by rfl, hb⟩
set_option maxRecDepth 100000 in
set_option maxHeartbeats 1000000 in
theorem code_1 (w : World) (h : Tz w) : Calls Tryz.prog 37 #[.int .i64 1] w fun e w' => e = .returned (.string (codeS 1)) ∧ Below w.heap.size w w' := by
  have H := Lib.hid h
  clear h
  go_enter Tryz.func37, Tryz.ntmps37
  go_wp2_with (first | (go_at_call 163; refine (fb_3 _ H.out).mono ?_; rintro e w' ⟨rfl, hb⟩) | go_in)
  go_ret
  exact ⟨by rfl, hb⟩
set_option maxRecDepth 100000 in
set_option maxHeartbeats 1000000 in
theorem code_2 (w : World) (h : Tz w) : Calls Tryz.prog 37 #[.int .i64 2] w fun e w' => e = .returned (.string (codeS 2)) ∧ Below w.heap.size w w' := by
  have H := Lib.hid h
  clear h
  go_enter Tryz.func37, Tryz.ntmps37
  go_wp2_with (first | (go_at_call 163; refine (fb_4 _ H.out).mono ?_; rintro e w' ⟨rfl, hb⟩) | go_in)
  go_ret
  exact ⟨by rfl, hb⟩
set_option maxRecDepth 100000 in
set_option maxHeartbeats 1000000 in
theorem code_3 (w : World) (h : Tz w) : Calls Tryz.prog 37 #[.int .i64 3] w fun e w' => e = .returned (.string (codeS 3)) ∧ Below w.heap.size w w' := by
  have H := Lib.hid h
  clear h
  go_enter Tryz.func37, Tryz.ntmps37
  go_wp2_with (first | (go_at_call 163; refine (fb_5 _ H.out).mono ?_; rintro e w' ⟨rfl, hb⟩) | go_in)
  go_ret
  exact ⟨by rfl, hb⟩
set_option maxRecDepth 100000 in
set_option maxHeartbeats 1000000 in
theorem code_4 (w : World) (h : Tz w) : Calls Tryz.prog 37 #[.int .i64 4] w fun e w' => e = .returned (.string (codeS 4)) ∧ Below w.heap.size w w' := by
  have H := Lib.hid h
  clear h
  go_enter Tryz.func37, Tryz.ntmps37
  go_wp2_with (first | (go_at_call 163; refine (fb_6 _ H.out).mono ?_; rintro e w' ⟨rfl, hb⟩) | go_in)
  go_ret
  exact ⟨by rfl, hb⟩
set_option maxRecDepth 100000 in
set_option maxHeartbeats 1000000 in
theorem code_5 (w : World) (h : Tz w) : Calls Tryz.prog 37 #[.int .i64 5] w fun e w' => e = .returned (.string (codeS 5)) ∧ Below w.heap.size w w' := by
  have H := Lib.hid h
  clear h
  go_enter Tryz.func37, Tryz.ntmps37
  go_wp2_with (first | (go_at_call 163; refine (fb_7 _ H.out).mono ?_; rintro e w' ⟨rfl, hb⟩) | go_in)
  go_ret
  exact ⟨by rfl, hb⟩
set_option maxRecDepth 100000 in
set_option maxHeartbeats 1000000 in
theorem code_6 (w : World) (h : Tz w) : Calls Tryz.prog 37 #[.int .i64 6] w fun e w' => e = .returned (.string (codeS 6)) ∧ Below w.heap.size w w' := by
  have H := Lib.hid h
  clear h
  go_enter Tryz.func37, Tryz.ntmps37
  go_wp2_with (first | (go_at_call 163; refine (fb_8 _ H.out).mono ?_; rintro e w' ⟨rfl, hb⟩) | go_in)
  go_ret
  exact ⟨by rfl, hb⟩
set_option maxRecDepth 100000 in
set_option maxHeartbeats 1000000 in
theorem code_7 (w : World) (h : Tz w) : Calls Tryz.prog 37 #[.int .i64 7] w fun e w' => e = .returned (.string (codeS 7)) ∧ Below w.heap.size w w' := by
  have H := Lib.hid h
  clear h
  go_enter Tryz.func37, Tryz.ntmps37
  go_wp2_with (first | (go_at_call 163; refine (fb_9 _ H.out).mono ?_; rintro e w' ⟨rfl, hb⟩) | go_in)
  go_ret
  exact ⟨by rfl, hb⟩
set_option maxRecDepth 100000 in
set_option maxHeartbeats 1000000 in
theorem code_8 (w : World) (h : Tz w) : Calls Tryz.prog 37 #[.int .i64 8] w fun e w' => e = .returned (.string (codeS 8)) ∧ Below w.heap.size w w' := by
  have H := Lib.hid h
  clear h
  go_enter Tryz.func37, Tryz.ntmps37
  go_wp2_with (first | (go_at_call 163; refine (fb_10 _ H.out).mono ?_; rintro e w' ⟨rfl, hb⟩) | go_in)
  go_ret
  exact ⟨by rfl, hb⟩
set_option maxRecDepth 100000 in
set_option maxHeartbeats 1000000 in
theorem code_9 (w : World) (h : Tz w) : Calls Tryz.prog 37 #[.int .i64 9] w fun e w' => e = .returned (.string (codeS 9)) ∧ Below w.heap.size w w' := by
  have H := Lib.hid h
  clear h
  go_enter Tryz.func37, Tryz.ntmps37
  go_wp2_with (first | (go_at_call 163; refine (fb_11 _ H.out).mono ?_; rintro e w' ⟨rfl, hb⟩) | go_in)
  go_ret
  exact ⟨by rfl, hb⟩
set_option maxRecDepth 100000 in
set_option maxHeartbeats 1000000 in
theorem code_10 (w : World) (h : Tz w) : Calls Tryz.prog 37 #[.int .i64 10] w fun e w' => e = .returned (.string (codeS 10)) ∧ Below w.heap.size w w' := by
  have H := Lib.hid h
  clear h
  go_enter Tryz.func37, Tryz.ntmps37
  go_wp2_with (first | (go_at_call 163; refine (fb_12 _ H.out).mono ?_; rintro e w' ⟨rfl, hb⟩) | go_in)
  go_ret
  exact ⟨by rfl, hb⟩
set_option maxRecDepth 100000 in
set_option maxHeartbeats 1000000 in
theorem code_11 (w : World) (h : Tz w) : Calls Tryz.prog 37 #[.int .i64 11] w fun e w' => e = .returned (.string (codeS 11)) ∧ Below w.heap.size w w' := by
  have H := Lib.hid h
  clear h
  go_enter Tryz.func37, Tryz.ntmps37
  go_wp2_with (first | (go_at_call 163; refine (fb_13 _ H.out).mono ?_; rintro e w' ⟨rfl, hb⟩) | go_in)
  go_ret
  exact ⟨by rfl, hb⟩
set_option maxRecDepth 100000 in
set_option maxHeartbeats 1000000 in
theorem code_12 (w : World) (h : Tz w) : Calls Tryz.prog 37 #[.int .i64 12] w fun e w' => e = .returned (.string (codeS 12)) ∧ Below w.heap.size w w' := by
  have H := Lib.hid h
  clear h
  go_enter Tryz.func37, Tryz.ntmps37
  go_wp2_with (first | (go_at_call 163; refine (fb_14 _ H.out).mono ?_; rintro e w' ⟨rfl, hb⟩) | go_in)
  go_ret
  exact ⟨by rfl, hb⟩
set_option maxRecDepth 100000 in
set_option maxHeartbeats 1000000 in
theorem code_13 (w : World) (h : Tz w) : Calls Tryz.prog 37 #[.int .i64 13] w fun e w' => e = .returned (.string (codeS 13)) ∧ Below w.heap.size w w' := by
  have H := Lib.hid h
  clear h
  go_enter Tryz.func37, Tryz.ntmps37
  go_wp2_with (first | (go_at_call 163; refine (fb_15 _ H.out).mono ?_; rintro e w' ⟨rfl, hb⟩) | go_in)
  go_ret
  exact ⟨by rfl, hb⟩
set_option maxRecDepth 100000 in
set_option maxHeartbeats 1000000 in
theorem code_14 (w : World) (h : Tz w) : Calls Tryz.prog 37 #[.int .i64 14] w fun e w' => e = .returned (.string (codeS 14)) ∧ Below w.heap.size w w' := by
  have H := Lib.hid h
  clear h
  go_enter Tryz.func37, Tryz.ntmps37
  go_wp2_with (first | (go_at_call 163; refine (fb_16 _ H.out).mono ?_; rintro e w' ⟨rfl, hb⟩) | go_in)
  go_ret
  exact ⟨by rfl, hb⟩
set_option maxRecDepth 100000 in
set_option maxHeartbeats 1000000 in
theorem code_15 (w : World) (h : Tz w) : Calls Tryz.prog 37 #[.int .i64 15] w fun e w' => e = .returned (.string (codeS 15)) ∧ Below w.heap.size w w' := by
  have H := Lib.hid h
  clear h
  go_enter Tryz.func37, Tryz.ntmps37
  go_wp2_with (first | (go_at_call 163; refine (fb_17 _ H.out).mono ?_; rintro e w' ⟨rfl, hb⟩) | go_in)
  go_ret
  exact ⟨by rfl, hb⟩
set_option maxRecDepth 100000 in
set_option maxHeartbeats 1000000 in
theorem code_16 (w : World) (h : Tz w) : Calls Tryz.prog 37 #[.int .i64 16] w fun e w' => e = .returned (.string (codeS 16)) ∧ Below w.heap.size w w' := by
  have H := Lib.hid h
  clear h
  go_enter Tryz.func37, Tryz.ntmps37
  go_wp2_with (first | (go_at_call 163; refine (fb_18 _ H.out).mono ?_; rintro e w' ⟨rfl, hb⟩) | go_in)
  go_ret
  exact ⟨by rfl, hb⟩
set_option maxRecDepth 100000 in
set_option maxHeartbeats 1000000 in
theorem code_17 (w : World) (h : Tz w) : Calls Tryz.prog 37 #[.int .i64 17] w fun e w' => e = .returned (.string (codeS 17)) ∧ Below w.heap.size w w' := by
  have H := Lib.hid h
  clear h
  go_enter Tryz.func37, Tryz.ntmps37
  go_wp2_with (first | (go_at_call 163; refine (fb_19 _ H.out).mono ?_; rintro e w' ⟨rfl, hb⟩) | go_in)
  go_ret
  exact ⟨by rfl, hb⟩
set_option maxRecDepth 100000 in
set_option maxHeartbeats 1000000 in
theorem code_18 (w : World) (h : Tz w) : Calls Tryz.prog 37 #[.int .i64 18] w fun e w' => e = .returned (.string (codeS 18)) ∧ Below w.heap.size w w' := by
  have H := Lib.hid h
  clear h
  go_enter Tryz.func37, Tryz.ntmps37
  go_wp2_with (first | (go_at_call 163; refine (fb_20 _ H.out).mono ?_; rintro e w' ⟨rfl, hb⟩) | go_in)
  go_ret
  exact ⟨by rfl, hb⟩
set_option maxRecDepth 100000 in
set_option maxHeartbeats 1000000 in
theorem code_19 (w : World) (h : Tz w) : Calls Tryz.prog 37 #[.int .i64 19] w fun e w' => e = .returned (.string (codeS 19)) ∧ Below w.heap.size w w' := by
  have H := Lib.hid h
  clear h
  go_enter Tryz.func37, Tryz.ntmps37
  go_wp2_with (first | (go_at_call 163; refine (fb_21 _ H.out).mono ?_; rintro e w' ⟨rfl, hb⟩) | go_in)
  go_ret
  exact ⟨by rfl, hb⟩
set_option maxRecDepth 100000 in
set_option maxHeartbeats 1000000 in
theorem code_20 (w : World) (h : Tz w) : Calls Tryz.prog 37 #[.int .i64 20] w fun e w' => e = .returned (.string (codeS 20)) ∧ Below w.heap.size w w' := by
  have H := Lib.hid h
  clear h
  go_enter Tryz.func37, Tryz.ntmps37
  go_wp2_with (first | (go_at_call 163; refine (fb_22 _ H.out).mono ?_; rintro e w' ⟨rfl, hb⟩) | go_in)
  go_ret
  exact ⟨by rfl, hb⟩
set_option maxRecDepth 100000 in
set_option maxHeartbeats 1000000 in
theorem code_21 (w : World) (h : Tz w) : Calls Tryz.prog 37 #[.int .i64 21] w fun e w' => e = .returned (.string (codeS 21)) ∧ Below w.heap.size w w' := by
  have H := Lib.hid h
  clear h
  go_enter Tryz.func37, Tryz.ntmps37
  go_wp2_with (first | (go_at_call 163; refine (fb_23 _ H.out).mono ?_; rintro e w' ⟨rfl, hb⟩) | go_in)
  go_ret
  exact ⟨by rfl, hb⟩
set_option maxRecDepth 100000 in
set_option maxHeartbeats 1000000 in
theorem code_22 (w : World) (h : Tz w) : Calls Tryz.prog 37 #[.int .i64 22] w fun e w' => e = .returned (.string (codeS 22)) ∧ Below w.heap.size w w' := by
  have H := Lib.hid h
  clear h
  go_enter Tryz.func37, Tryz.ntmps37
  go_wp2_with (first | (go_at_call 163; refine (fb_24 _ H.out).mono ?_; rintro e w' ⟨rfl, hb⟩) | go_in)
  go_ret
  exact ⟨by rfl, hb⟩
set_option maxRecDepth 100000 in
set_option maxHeartbeats 1000000 in
theorem code_23 (w : World) (h : Tz w) : Calls Tryz.prog 37 #[.int .i64 23] w fun e w' => e = .returned (.string (codeS 23)) ∧ Below w.heap.size w w' := by
  have H := Lib.hid h
  clear h
  go_enter Tryz.func37, Tryz.ntmps37
  go_wp2_with (first | (go_at_call 163; refine (fb_25 _ H.out).mono ?_; rintro e w' ⟨rfl, hb⟩) | go_in)
  go_ret
  exact ⟨by rfl, hb⟩
set_option maxRecDepth 100000 in
set_option maxHeartbeats 1000000 in
theorem code_24 (w : World) (h : Tz w) : Calls Tryz.prog 37 #[.int .i64 24] w fun e w' => e = .returned (.string (codeS 24)) ∧ Below w.heap.size w w' := by
  have H := Lib.hid h
  clear h
  go_enter Tryz.func37, Tryz.ntmps37
  go_wp2_with (first | (go_at_call 163; refine (fb_26 _ H.out).mono ?_; rintro e w' ⟨rfl, hb⟩) | go_in)
  go_ret
  exact ⟨by rfl, hb⟩
set_option maxRecDepth 100000 in
set_option maxHeartbeats 1000000 in
theorem code_25 (w : World) (h : Tz w) : Calls Tryz.prog 37 #[.int .i64 25] w fun e w' => e = .returned (.string (codeS 25)) ∧ Below w.heap.size w w' := by
  have H := Lib.hid h
  clear h
  go_enter Tryz.func37, Tryz.ntmps37
  go_wp2_with (first | (go_at_call 163; refine (fb_27 _ H.out).mono ?_; rintro e w' ⟨rfl, hb⟩) | go_in)
  go_ret
  exact ⟨by rfl, hb⟩
theorem code_any (k : Nat) (hk : k < 26) (w : World) (h : Tz w) : Calls Tryz.prog 37 #[.int .i64 (k : Int)] w fun e w' => e = .returned (.string (codeS k)) ∧ Below w.heap.size w w' := by
  match k, hk with
  | 0, _ => exact code_0 w h
  | 1, _ => exact code_1 w h
  | 2, _ => exact code_2 w h
  | 3, _ => exact code_3 w h
  | 4, _ => exact code_4 w h
  | 5, _ => exact code_5 w h
  | 6, _ => exact code_6 w h
  | 7, _ => exact code_7 w h
  | 8, _ => exact code_8 w h
  | 9, _ => exact code_9 w h
  | 10, _ => exact code_10 w h
  | 11, _ => exact code_11 w h
  | 12, _ => exact code_12 w h
  | 13, _ => exact code_13 w h
  | 14, _ => exact code_14 w h
  | 15, _ => exact code_15 w h
  | 16, _ => exact code_16 w h
  | 17, _ => exact code_17 w h
  | 18, _ => exact code_18 w h
  | 19, _ => exact code_19 w h
  | 20, _ => exact code_20 w h
  | 21, _ => exact code_21 w h
  | 22, _ => exact code_22 w h
  | 23, _ => exact code_23 w h
  | 24, _ => exact code_24 w h
  | 25, _ => exact code_25 w h
  | n + 26, h2 => exact absurd h2 (by omega)
end Go.Proofs.YtlflfieknibgmaaGreatDoor
