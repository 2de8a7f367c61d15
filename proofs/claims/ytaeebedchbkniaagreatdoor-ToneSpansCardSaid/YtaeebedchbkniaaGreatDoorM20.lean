import Derived.Test.YtaeebedchbkniaaGreatDoorM16
import Derived.Test.YtaeebedchbkniaaGreatDoorM18
namespace Go.Proofs.YtaeebedchbkniaaGreatDoor
set_option linter.all false
open Go.RowKit Go.Fl
attribute [local go_sem] Oper.semAt_some
theorem visit_stops (n : Nat) (hn : 1 ≤ n) (Bn n0 : Nat) (A : Option Addr) (c : Nat) (L : List Sg) (hL : L.length ≤ 1000000) (w : World) (hn0 : n0 ≤ w.heap.size) (hR : ∀ V, Below n0 w V → Rd V A (sgC L)) (hB : Row w Bn 48 [.slice A L.length c]) :
 SeqStopsK Fence.wide n Tryz.prog 130 #[.pointer (some ⟨Bn, 0, none⟩)] (fun x : Fin L.length => #[numV L x.1]) (Below n0) (fun ys => ys = List.finRange L.length) (fun _ => True) L.length w := fun l J Jx W hW hJ _ hY h0 =>
 visit_in n hn l Bn n0 A c L hL J Jx W hJ hY (Nat.le_trans hn0 hW.size) (fun V hV => hR V ((hW.mono hn0).trans hV)) (hB.old hW) h0
theorem List.reverseRecOn' {α : Type} {p : List α → Prop} (l : List α) (nil : p []) (snoc : ∀ l x, p l → p (l ++ [x])) : p l := by
 have h : ∀ m : List α, p m.reverse := fun m => by
  induction m with
  | nil => exact nil
  | cons x m ih => rw [List.reverse_cons]; exact snoc _ _ ih
 have := h l.reverse
 rwa [List.reverse_reverse] at this
theorem Row.keptM {W W' : World} {row : Option Nat} {g : Nat} {t : TypeId} {vs : List Value} (h : Row W g t vs) (hg : W.grownBy W' row) (hr : ∀ r, row = some r → ∃ o : Obj, W.heap[r]? = some o ∧ o.isCells = false) : Row W' g t vs :=
 (hg.block g h.lt (fun e => by obtain ⟨o, ho, hc⟩ := hr g e.symm; rw [show W.heap[g]? = _ from h] at ho; cases ho; cases hc)).trans h
def numC (L : List Sg) (i : Nat) : List Value := [.int .i64 (L.getD i ⟨0, 0, 0, 0, 0, 0⟩).a, .int .i64 (L.getD i ⟨0, 0, 0, 0, 0, 0⟩).b, .int .i64 (L.getD i ⟨0, 0, 0, 0, 0, 0⟩).c, .int .i64 (L.getD i ⟨0, 0, 0, 0, 0, 0⟩).d, .int .i64 (L.getD i ⟨0, 0, 0, 0, 0, 0⟩).x, .int .i64 (L.getD i ⟨0, 0, 0, 0, 0, 0⟩).y, .int .i64 (i : Int)]
theorem rowAtA (W : World) (n : Nat) {t : TypeId} {k : Nat} {v : Value} (hn : W.heap.size = n) : Row (W.alloc (.cells (Array.replicate k v) t)) n t (List.replicate k v) := by
 subst hn
 have h := Row.new W t (List.replicate k v)
 rwa [List.toArray_replicate] at h
set_option maxRecDepth 100000 in
set_option maxHeartbeats 1000000 in
theorem visited_any (A : Option Addr) (n c : Nat) (w : World) : Calls Tryz.prog 74 #[.slice A n c] w fun e w' => e = .returned (.func (.func 130) #[] #[.pointer (some ⟨w.heap.size, 0, none⟩)]) ∧ Row w' w.heap.size 48 [.slice A n c] ∧ Below w.heap.size w w' := by
 go_enter Tryz.func74, Tryz.ntmps74
 go_wp2
 go_ret
 exact ⟨rfl, Row.new w 48 [.slice A n c], (Below.refl _ _).alloc (Nat.le_refl _) _⟩
theorem foL_len (rs rf rl ra rb lag start : Int) (L : List Sg) : (foL rs rf rl ra rb lag start L).length = L.length := by simp [foL]
theorem foL_get (rs rf rl ra rb lag start : Int) (L : List Sg) (k : Nat) (hk : k < L.length) : (foL rs rf rl ra rb lag start L)[k]'(by rw [foL_len]; exact hk) = (L.take (k + 1)).foldl (foN rs rf rl ra rb lag) start := by simp [foL]
theorem fold_take (rs rf rl ra rb lag start : Int) (L : List Sg) (k : Nat) (hk : k < L.length) : (L.take (k + 1)).foldl (foN rs rf rl ra rb lag) start = foN rs rf rl ra rb lag ((L.take k).foldl (foN rs rf rl ra rb lag) start) L[k] := by
 rw [List.take_succ_eq_append_getElem hk, List.foldl_append]; rfl
def stF (rs rf rl ra rb lag : Int) (L : List Sg) (st : List Int × Int) (i : Fin L.length) : List Int × Int := (st.1.set i.1 (foN rs rf rl ra rb lag st.2 L[i.1]), foN rs rf rl ra rb lag st.2 L[i.1])
def stP (rs rf rl ra rb lag start : Int) (L : List Sg) (pre : List (Fin L.length)) : List Int × Int := pre.foldl (stF rs rf rl ra rb lag L) (List.replicate L.length 0, start)
theorem stP_snoc (rs rf rl ra rb lag start : Int) (L : List Sg) (pre : List (Fin L.length)) (x : Fin L.length) : stP rs rf rl ra rb lag start L (pre ++ [x]) = stF rs rf rl ra rb lag L (stP rs rf rl ra rb lag start L pre) x := by simp [stP, List.foldl_append]
theorem stP_ok {rs rf rl ra rb lag start : Int} {L : List Sg} (hR : RecG rs rf rl ra rb) (hl : 1 ≤ lag) (hs : -rf ≤ start ∧ start ≤ rf) (pre : List (Fin L.length)) : (stP rs rf rl ra rb lag start L pre).1.length = L.length ∧ -rf ≤ (stP rs rf rl ra rb lag start L pre).2 ∧ (stP rs rf rl ra rb lag start L pre).2 ≤ rf := by
 induction pre using List.reverseRecOn' with
 | nil => exact ⟨by simp [stP], hs.1, hs.2⟩
 | snoc pre x ih =>
   rw [stP_snoc]
   exact ⟨by simp [stF, ih.1], foN_bd hR hl ih.2 _⟩
theorem stP_all (rs rf rl ra rb lag start : Int) (L : List Sg) (k : Nat) (hk : k ≤ L.length) : stP rs rf rl ra rb lag start L ((List.finRange L.length).take k) = ((foL rs rf rl ra rb lag start L).take k ++ List.replicate (L.length - k) 0, (L.take k).foldl (foN rs rf rl ra rb lag) start) := by
 induction k with
 | zero => simp [stP]
 | succ k ih =>
   have h : k < L.length := hk
   rw [← range_snoc k h, stP_snoc, ih (by omega), stF]
   have e := fold_take rs rf rl ra rb lag start L k h
   simp only
   rw [← e]
   refine Prod.ext ?_ rfl
   show List.set _ k _ = _
   have h2 : k < (foL rs rf rl ra rb lag start L).length := by rw [foL_len]; exact h
   rw [List.take_succ_eq_append_getElem h2, foL_get _ _ _ _ _ _ _ _ _ h, List.append_assoc]
   have h3 : L.length - k = (L.length - (k + 1)) + 1 := by omega
   rw [h3, List.replicate_succ, List.set_append_right _ _ (by simp; omega)]
   simp [foL_len, Nat.min_eq_left (Nat.le_of_lt h)]
def FoI (w : World) (rs rf rl ra rb lag start : Int) (L : List Sg) (g11 g12 gN gR gL : Nat) (pre : List (Fin L.length)) (W : World) : Prop :=
 Row W g11 3 [.int .i64 (stP rs rf rl ra rb lag start L pre).2] ∧ Row W g12 43 [.slice (some ⟨gN, 0, none⟩) L.length L.length] ∧ Row W gN 3 (ints (stP rs rf rl ra rb lag start L pre).1) ∧ Row W gR 33 [.int .i64 rs, .int .i64 rf, .int .i64 rl, .int .i64 ra, .int .i64 rb] ∧ Row W gL 3 [.int .i64 lag] ∧ Below w.heap.size w W
theorem FoI.keep {w : World} {rs rf rl ra rb lag start : Int} {L : List Sg} {g11 g12 gN gR gL : Nat} {pre : List (Fin L.length)} {W W' : World} (h : FoI w rs rf rl ra rb lag start L g11 g12 gN gR gL pre W) (hb : Below W.heap.size W W') : FoI w rs rf rl ra rb lag start L g11 g12 gN gR gL pre W' := by
 obtain ⟨h2, h3, h4, h5, h6, h7⟩ := h
 exact ⟨h2.old hb, h3.old hb, h4.old hb, h5.old hb, h6.old hb, h7.trans (hb.mono h7.size)⟩
theorem Row.ne2 {w : World} {g h : Nat} {t u : TypeId} {vs us : List Value} (a : Row w g t vs) (b : Row w h u us) (hne : t ≠ u) : ¬ g = h := by
 rintro rfl
 have e := a.symm.trans b
 injection e with e
 injection e with _ e2
 exact hne e2
theorem results_tt {P : Program} {fn : Func} {t u : Tmp} (h : fn.results = #[.tmp t, .tmp u]) (tmps : Array Value) (w : World) : (results fn tmps).run P w = .ok (.tuple #[tmps.getD t undef, tmps.getD u undef]) w := by
 simp [results, h]
end Go.Proofs.YtaeebedchbkniaaGreatDoor
