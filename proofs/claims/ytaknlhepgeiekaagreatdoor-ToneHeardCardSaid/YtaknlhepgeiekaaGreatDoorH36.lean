import Derived.Shelf.SlSortCmp.WholeK
import Derived.Shelf.SlSortCmp.NoneTotal
import Derived.Test.YtaknlhepgeiekaaGreatDoorH20
import Derived.Test.YtaknlhepgeiekaaGreatDoorH35
namespace Go.Proofs.YtaknlhepgeiekaaGreatDoor
set_option linter.all false
open Go.RowKit Go.Fl
set_option maxRecDepth 100000
set_option maxHeartbeats 1000000
def encS (p : Int × Int) : List Value := [.int .i64 p.1, .int .i64 p.2]
def cfS (p q : Int × Int) : Int := cmpI p.1 q.1
theorem ltS (x y : Int × Int) : ltOf cfS x y = decide (x.1 < y.1) := by
 unfold ltOf cfS cmpI
 by_cases h1 : x.1 < y.1
 · simp [h1]
 · by_cases h2 : y.1 < x.1 <;> simp [h1, h2]
theorem swoS : Go.Sort.SWO (ltOf cfS) where
 irrefl x := by rw [ltS]; simp
 trans x y z h1 h2 := by rw [ltS] at *; simp at *; omega
 ntrans x y z h1 h2 := by rw [ltS] at *; simp at *; omega
theorem isNaNI_any (a : Int) (w : World) : Calls Tryz.prog 130 #[.int .i64 a] w fun e w' => e = .returned (.bool false) ∧ w = w' := by
 go_enter Tryz.func130, Tryz.ntmps130
 go_wp2
 go_ret
 exact ⟨by simp, rfl⟩
theorem cmpInt_any (a b : Int) (w : World) : Calls Tryz.prog 81 #[.int .i64 a, .int .i64 b] w fun e w' => e = .returned (.int .i64 (cmpI a b)) ∧ w = w' := by
 rcases Int.lt_trichotomy a b with h | h | h
 · have HR : Hid (cmpI a b = -1) := by unfold Hid cmpI; rw [if_pos h]
   go_enter Tryz.func81, Tryz.ntmps81
   go_wp2_with (go_at_call 130; refine (isNaNI_any _ _).mono ?_; rintro e w2 ⟨rfl, rfl⟩)
   go_ret
   exact ⟨by rw [HR.out]; rfl, rfl⟩
 · have HR : Hid (cmpI a b = 0) := by unfold Hid cmpI; rw [if_neg (by omega), if_neg (by omega)]
   have h1 : ¬ a < b := by omega
   have h2 : ¬ b < a := by omega
   clear h
   go_enter Tryz.func81, Tryz.ntmps81
   go_wp2_with (go_at_call 130; refine (isNaNI_any _ _).mono ?_; rintro e w2 ⟨rfl, rfl⟩)
   go_ret
   exact ⟨by rw [HR.out]; rfl, rfl⟩
 · have HR : Hid (cmpI a b = 1) := by unfold Hid cmpI; rw [if_neg (by omega), if_pos h]
   have h1 : ¬ a < b := by omega
   go_enter Tryz.func81, Tryz.ntmps81
   go_wp2_with (go_at_call 130; refine (isNaNI_any _ _).mono ?_; rintro e w2 ⟨rfl, rfl⟩)
   go_ret
   exact ⟨by rw [HR.out]; rfl, rfl⟩
theorem crossings3_any (p q : Int × Int) (W : World) : Calls Tryz.prog 80 #[.agg #[.int .i64 p.1, .int .i64 p.2], .agg #[.int .i64 q.1, .int .i64 q.2]] W fun e w' => e = .returned (.int .i64 (cfS p q)) ∧ ∃ m os', w' = Go.Sort.grow (W.drewN m) os' := by
 have HC := Lib.hid (fun V => cmpInt_any p.1 q.1 V)
 unfold cfS
 obtain ⟨r, hr⟩ : ∃ r, r = cmpI p.1 q.1 := ⟨_, rfl⟩
 rw [← hr] at HC ⊢
 clear hr
 go_enter Tryz.func80, Tryz.ntmps80
 go_wp2_with (go_at_call 81; refine (HC.out _).mono ?_; rintro e w' ⟨rfl, rfl⟩)
 go_ret
 exact ⟨rfl, 0, _, by rw [Go.Sort.alloc_eq_grow, Go.Sort.alloc_eq_grow, Go.Sort.grow_grow]; rfl⟩
theorem grownBy_sortT {w : World} {g n : Nat} {os : Array Obj} (d : Array (Int × Int)) : w.grownBy (sortWorldK encS 2 w g 0 n d os) (some g) := by
 unfold sortWorldK
 refine ⟨rfl, rfl, rfl, by simp [Go.Sort.putRowK, Go.Sort.grow], fun k hk hne => ?_⟩
 rw [Go.Sort.heap_grow_old _ _ (by simpa [Go.Sort.putRowK] using hk)]
 have : g ≠ k := fun e => hne (by rw [e])
 simp [Go.Sort.putRowK, Go.Sort.putRow, Go.Sort.mapBlock, Go.Sort.ahead, Array.getElem?_modify, this]
theorem spanC_flat (l : List (Int × Int)) : spanC l = l.flatMap encS := rfl
theorem isAggS (w : World) : (isAgg 77).run Tryz.prog w = .ok true w := by kernel_rfl
theorem sizeOfS (w : World) : (sizeOf 77).run Tryz.prog w = .ok 2 w := by kernel_rfl
theorem sortS_any (B : Nat) (A : Option Addr) (c : Nat) (l : List (Int × Int)) (W : World) (hown : W.ownsRow B 77 2 (.slice A l.length c) l.length (spanC l)) (hm : l.length ≤ 1000) : Calls Tryz.prog 79 #[.slice A l.length c, .func (.func 80) #[] #[]] W fun e w' => e = .returned (.tuple #[]) ∧ ∃ S : List (Int × Int), S.Perm l ∧ S.Pairwise (fun a b => a.1 ≤ b.1) ∧ Rd w' A (spanC S) ∧ Below B W w' := by
 rcases Nat.eq_zero_or_pos l.length with h0 | h0
 · obtain rfl : l = [] := List.eq_nil_of_length_eq_zero h0
   refine (AnyF.slices_SortFunc_none Tryz.sortSp A c (.func (.func 80) #[] #[]) W).mono ?_
   rintro e w' ⟨rfl, rfl⟩
   exact ⟨rfl, [], List.Perm.nil, List.Pairwise.nil, fun j v hv => (by cases hv), Below.refl _ _⟩
 obtain ⟨g, cap, e, hBg, hg⟩ := ownsRow.addr hown h0
 cases e
 have hH : Go.Sort.HoldsK encS 2 W g 0 l.toArray := by
  intro j hj
  rw [Go.Sort.size_flatK] at hj
  have hj2 : j < l.length * 2 := by simpa using hj
  refine ⟨?_, hown.frozenAt _⟩
  rw [hown.cellAt _ (by omega), Nat.zero_add, spanC_flat]
  have h2 := flat_getS encS 2 (fun _ => rfl) l (j / 2) (by omega) (j % 2) (Nat.mod_lt _ (by decide))
  rw [show j / 2 * 2 + j % 2 = j by omega] at h2
  rw [h2, Go.Sort.get_flatK _ _ _ _ hj]
  have e1 : l.toArray[j / 2]! = l[j / 2]'(by omega) := by simp [getElem!_pos, show j / 2 < l.length by omega]
  rw [e1]
  rcases Nat.mod_two_eq_zero_or_one j with h | h <;> rw [h] <;> rfl
 have hcon := AnyQ.slices_SortFunc Tryz.sortSp 2 isAggS sizeOfS encS (fun _ => rfl) (fun x v hv => by simp [encS] at hv; rcases hv with rfl | rfl <;> rfl) cfS swoS 80 #[] g 0 c l.toArray W (enters_of Tryz.func80 (by kernel_rfl) rfl) (fun _ _ _ _ x y => crossings3_any x y _) hH hg (by simp; omega)
 refine hcon.mono ?_
 rintro e w' ⟨rfl, d', n, os, hp, hs, rfl⟩
 have hsz : d'.size = l.length := by have := hp.1; simpa using this
 have hH2 := holdsK_sortWorldK_c encS 2 W g 0 l.toArray d' n os hH hg (by simpa using hsz)
 refine ⟨rfl, d'.toList, ?_, ?_, ?_, (Below.refl B W).grown (grownBy_sortT d') (by omega) (fun k e => by cases e; exact hBg)⟩
 · have h := hp.2.2
   have e1 : (d'.extract 0 l.toArray.size).toList = d'.toList := by simp [← hsz]
   have e2 : (l.toArray.extract 0 l.toArray.size).toList = l := by simp
   rw [e1, e2] at h; exact h
 · rw [List.pairwise_iff_getElem]
   intro i j hi hj hij
   have h := hs i j (Nat.zero_le _) hij (by simp at hj ⊢; omega)
   rw [ltS] at h
   simp only [decide_eq_false_iff_not, Array.length_toList] at h hi hj
   have e1 : d'[i]! = d'[i] := by simp [getElem!_pos, hi]
   have e2 : d'[j]! = d'[j] := by simp [getElem!_pos, hj]
   rw [e1, e2] at h
   simp only [Array.getElem_toList]
   omega
 · intro j v hv
   refine ⟨g, 0, rfl, ?_⟩
   have hj : j < d'.size * 2 := by have := (List.getElem?_eq_some_iff.1 hv).1; rw [spanC_length] at this; simpa using this
   have h := hH2.cell (i := j / 2) (c := j % 2) (by omega) (Nat.mod_lt _ (by decide))
   have e3 : 0 + j / 2 * 2 + j % 2 = 0 + j := by omega
   rw [e3] at h
   rw [h.1]
   rw [spanC_flat] at hv
   have h2 := flat_getS encS 2 (fun _ => rfl) d'.toList (j / 2) (by simp; omega) (j % 2) (Nat.mod_lt _ (by decide))
   rw [show j / 2 * 2 + j % 2 = j by omega, hv] at h2
   have e1 : d'[j / 2]! = d'[j / 2]'(by omega) := by simp [getElem!_pos, show j / 2 < d'.size by omega]
   rw [h2, e1]
   simp only [Array.getElem_toList]
   rcases Nat.mod_two_eq_zero_or_one j with h | h <;> rw [h] <;> rfl
theorem crossings_ok (E : Int) (A : Option Addr) (c : Nat) (L : List Sg) (w : World) (hA : Rd w A (sgC L)) (hL : L.length ≤ 1000000) (hE : E = sgsE L) (h0 : E = 0) (hg : ∀ s ∈ L, SigG s.a s.b s.c s.d s.x s.y) (hn : 0 < L.length ∧ L.length ≤ 256) : Calls Tryz.prog 27 #[.slice A L.length c] w fun e w' => ∃ A2 c2 S, e = .returned (.tuple #[.slice A2 S.length c2, .int .i64 0]) ∧ S.Perm (spL (fun k => (L.map sgn).getD k 1 == 0) L.length ++ crL (L.map sgn) L.length) ∧ S.Pairwise (fun a b : Int × Int => a.1 ≤ b.1) ∧ Rd w' A2 (spanC S) ∧ Below w.heap.size w w' :=
 crossings_of E A c L w hA hL hE h0 hg hn sortS_any
end Go.Proofs.YtaknlhepgeiekaaGreatDoor
