import Derived.Shelf.Abstract
import Derived.Test.YtaknlhepgeiekaaGreatDoorH18
namespace Go.Proofs.YtaknlhepgeiekaaGreatDoor
set_option linter.all false
open Go.RowKit Go.Fl
theorem owned_sliceT {w : World} {B : Nat} {e : TypeId} {s : Nat} {v : Value} {n : Nat} {vs : List Value} (h : w.ownsRow B e s v n vs) : ∃ A c, v = .slice A n c ∧ Rd w A vs := by
 rcases h.2 with ⟨h1, h2⟩ | ⟨g, cap, cur, h1, h2, h3, h4, h5, h6, h7⟩
 · subst h1; subst h2
   refine ⟨none, 0, rfl, ?_⟩
   have : vs = [] := List.eq_nil_of_length_eq_zero (by rw [h.1, Nat.zero_mul])
   subst this
   intro j v hv; cases hv
 · refine ⟨_, _, h1, ?_⟩
   intro j u hu
   have hj : j < n * s := by rw [← h.1]; exact (List.getElem?_eq_some_iff.1 hu).1
   refine ⟨g, 0, rfl, ?_⟩
   rw [Nat.zero_add, cell_of_row w g j cur e (0, 0) h3, ← Array.getElem?_toList]
   rw [← h7, List.getElem?_take, if_pos hj] at hu
   exact hu
def fgB (rl ra rb : Int) (L : List Sg) (k : Nat) : Bool := flB rl (L.getD k ⟨0, 0, 0, 0, 0, 0⟩) || flD ra rb (L.getD k ⟨0, 0, 0, 0, 0, 0⟩)
set_option maxRecDepth 100000 in
set_option maxHeartbeats 1000000 in
theorem flagged_ok (rs rf rl ra rb E : Int) (A : Option Addr) (c : Nat) (L : List Sg) (w : World) (hA : Rd w A (sgC L)) (hL : L.length ≤ 1000000) (hE : E = firstI [recE rs rf rl ra rb, sgsE L]) (h0 : E = 0) (hR : RecG rs rf rl ra rb) (hg : ∀ s ∈ L, SigG s.a s.b s.c s.d s.x s.y) : Calls Tryz.prog 39 #[.agg #[.int .i64 rs, .int .i64 rf, .int .i64 rl, .int .i64 ra, .int .i64 rb], .slice A L.length c] w fun e w' => ∃ A2 c2, e = .returned (.tuple #[.slice A2 (spL (fgB rl ra rb L) L.length).length c2, .int .i64 0]) ∧ Rd w' A2 (spanC (spL (fgB rl ra rb L) L.length)) ∧ Below w.heap.size w w' := by
 have HC1 : Hid (∀ W, Calls Tryz.prog 84 #[.agg #[.int .i64 rs, .int .i64 rf, .int .i64 rl, .int .i64 ra, .int .i64 rb]] W fun e w' => e = .returned (.int .i64 (recE rs rf rl ra rb)) ∧ Below W.heap.size W w') := fun W => checkReceiver_any rs rf rl ra rb W
 have HC4 : Hid (∀ W, Below w.heap.size w W → Calls Tryz.prog 52 #[.slice A L.length c] W fun e w' => e = .returned (.int .i64 (sgsE L)) ∧ Below W.heap.size W w') := fun W hW => checkSignals_any A c L W (hA.below hW) hL
 obtain ⟨E1, hE1⟩ : ∃ E1, E1 = recE rs rf rl ra rb := ⟨_, rfl⟩
 obtain ⟨E4, hE4⟩ : ∃ E4, E4 = sgsE L := ⟨_, rfl⟩
 rw [← hE1] at HC1 hE
 rw [← hE4] at HC4 hE
 have HE : Hid (firstI [E1, E4] = E) := hE.symm
 have hne : (E == 0) = true := by simpa using h0
 have hne2 : (E != 0) = false := by simpa using h0
 have HS1 : Hid (Row (w.alloc (.cells #[.int .i64 rs, .int .i64 rf, .int .i64 rl, .int .i64 ra, .int .i64 rb] 87)) w.heap.size 87 [.int .i64 rs, .int .i64 rf, .int .i64 rl, .int .i64 ra, .int .i64 rb] ∧ Below w.heap.size w (w.alloc (.cells #[.int .i64 rs, .int .i64 rf, .int .i64 rl, .int .i64 ra, .int .i64 rb] 87))) := ⟨Row.new w _ _, (Below.refl _ _).alloc (Nat.le_refl _) _⟩
 have HW : Hid (∀ W g, Row W g 87 [.int .i64 rs, .int .i64 rf, .int .i64 rl, .int .i64 ra, .int .i64 rb] → Below w.heap.size w W → Calls Tryz.prog 93 #[.slice A L.length c, .func (.func 94) #[] #[.pointer (some ⟨g, 0, none⟩)]] W fun e w' => ∃ v, e = .returned v ∧ w'.ownsRow W.heap.size 77 2 v (spL (fgB rl ra rb L) L.length).length (spanC (spL (fgB rl ra rb L) L.length)) ∧ Below W.heap.size W w') := fun W g hr hW => by
  refine spansWhereS_any A c L (fgB rl ra rb L) 94 #[.pointer (some ⟨g, 0, none⟩)] W (hA.below hW) hL (fun k hk V hV => ?_) (enters_of Tryz.func94 (by kernel_rfl) rfl)
  have e : fgB rl ra rb L k = (flB rl L[k] || flD ra rb L[k]) := by unfold fgB; simp [hk]
  rw [e]
  exact flagged1_any rs rf rl ra rb L[k] g V hR (hg _ (List.getElem_mem _)) (hr.old hV)
 obtain ⟨S, hS⟩ : ∃ S, S = spL (fgB rl ra rb L) L.length := ⟨_, rfl⟩
 rw [← hS] at HW ⊢
 clear hE hE1 hE4 h0 hA hR hg hS
 go_enter Tryz.func39, Tryz.ntmps39
 go_wp2_with (first
  | (go_at_call 84; refine (HC1.out _).mono ?_; rintro e w2 ⟨rfl, hb2⟩; have HS2 : Hid (Row _ w.heap.size 87 [.int .i64 rs, .int .i64 rf, .int .i64 rl, .int .i64 ra, .int .i64 rb] ∧ Below w.heap.size w _) := ⟨HS1.out.1.old hb2, HS1.out.2.trans (hb2.mono HS1.out.2.size)⟩; clear hb2)
  | (go_at_call 52; refine (HC4.out _ HS2.out.2).mono ?_; rintro e w3 ⟨rfl, hb3⟩; have HS3 : Hid (Row _ w.heap.size 87 [.int .i64 rs, .int .i64 rf, .int .i64 rl, .int .i64 ra, .int .i64 rb] ∧ Below w.heap.size w _) := ⟨HS2.out.1.old hb3, HS2.out.2.trans (hb3.mono HS2.out.2.size)⟩; clear hb3)
  | (go_at_call 64; refine (firstV_any _ _ _ [E1, E4] _ Rd.newT rfl (by simp)).mono ?_; rintro e w4 ⟨rfl, rfl⟩; rw [HE.out])
  | (refine wpList_load_row rfl 87 _ rfl (w.heap.size) rfl 87 #[.int .i64 rs, .int .i64 rf, .int .i64 rl, .int .i64 ra, .int .i64 rb] (0, 0) _ HS1.out.1 Tryz.underlying87 rfl ?_ ?_; (kernel_rfl))
  | (go_at_call 93; refine (HW.out _ _ (HS3.out.1.alloc _) (HS3.out.2.alloc HS3.out.2.size _)).mono ?_; rintro e w5 ⟨v, rfl, ho, hb5⟩; have HO := Lib.hid ho; have HB5 := Lib.hid ((HS3.out.2.alloc HS3.out.2.size _).trans (hb5.mono (HS3.out.2.alloc HS3.out.2.size _).size)); clear ho hb5))
 obtain ⟨A2, c2, rfl, hrd⟩ := owned_sliceT HO.out
 go_ret2
 exact ⟨A2, c2, rfl, hrd, HB5.out⟩
end Go.Proofs.YtaknlhepgeiekaaGreatDoor
