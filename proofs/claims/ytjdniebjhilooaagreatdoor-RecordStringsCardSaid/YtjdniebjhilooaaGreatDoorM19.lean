import Derived.Test.YtjdniebjhilooaaGreatDoorM18
import Derived.WalkLawsBesides
import Derived.Deep.RegionLaw
import Derived.Test.YtjdniebjhilooaaGreatDoorM28
namespace Go.Proofs.YtjdniebjhilooaaGreatDoor
set_option linter.all false
open Go.RowKit Go.Fl
theorem genH {p : World → Prop} {w0 w : World} (g0 g1 : Nat) (t0 t1 : TypeId) (v0 v1 : List Value) (h0 : Row w g0 t0 v0) (h1 : Row w g1 t1 v1) (hb : Below w0.heap.size w0 w)
 (h : ∀ w3, Row w3 g0 t0 v0 → Row w3 g1 t1 v1 → Below w0.heap.size w0 w3 → p w3) : p w := h w h0 h1 hb
set_option maxRecDepth 100000 in
set_option maxHeartbeats 1000000 in
theorem sameRecording_true (st sp : Int) (A B A' B' : Option Addr) (c d c' d' : Nat) (xs ys : List Nat) (ms : List (Int × ByteArray)) (w : World) (hA : Rd w A (flts xs)) (hB : Rd w B (markC ms)) (hA' : Rd w A' (flts ys)) (hB' : Rd w B' (markC ms)) (hx : xs.length ≤ 1000000) (hm : ms.length ≤ 1000000) (hs : sameF xs ys = true) :
 Calls Tryz.prog 15 #[.agg #[.int .i64 st, .int .i64 sp, .slice A xs.length c, .slice B ms.length d], .agg #[.int .i64 st, .int .i64 sp, .slice A' ys.length c', .slice B' ms.length d']] w fun e w' => e = .returned (.bool true) ∧ Below w.heap.size w w' := by
 have HA : Hid (∀ W, Below w.heap.size w W → Rd W A (flts xs)) := fun W h => hA.below h
 have HB : Hid (∀ W, Below w.heap.size w W → Rd W B (markC ms)) := fun W h => hB.below h
 have HA' : Hid (∀ W, Below w.heap.size w W → Rd W A' (flts ys)) := fun W h => hA'.below h
 have HB' : Hid (∀ W, Below w.heap.size w W → Rd W B' (markC ms)) := fun W h => hB'.below h
 have HS := Lib.hid hs
 clear hA hB hA' hB' hs
 have R0 := (Row.new w 25 [.int .i64 st, .int .i64 sp, .slice A xs.length c, .slice B ms.length d]).alloc (.cells #[.int .i64 st, .int .i64 sp, .slice A' ys.length c', .slice B' ms.length d'] 25)
 have R1 := Row.new (w.alloc (.cells #[.int .i64 st, .int .i64 sp, .slice A xs.length c, .slice B ms.length d] 25)) 25 [.int .i64 st, .int .i64 sp, .slice A' ys.length c', .slice B' ms.length d']
 rw [World.size_alloc] at R1
 have RB := ((Below.refl w.heap.size w).alloc (Nat.le_refl _) (.cells #[.int .i64 st, .int .i64 sp, .slice A xs.length c, .slice B ms.length d] 25)).alloc (by simp) (.cells #[.int .i64 st, .int .i64 sp, .slice A' ys.length c', .slice B' ms.length d'] 25)
 go_enter Tryz.func15, Tryz.ntmps15
 go_upto_region 1 with fail
 refine genH (w0 := w) w.heap.size (w.heap.size + 1) _ _ _ _ R0 R1 RB ?_
 clear R0 R1 RB
 intro W R0 R1 RB
 have q0 := R0.cell 0; have q1 := R0.cell 1; have q2 := R0.cell 2; have q3 := R0.cell 3
 have p0 := R1.cell 0; have p1 := R1.cell 1; have p2 := R1.cell 2; have p3 := R1.cell 3
 simp only [List.getElem?_cons_succ, List.getElem?_cons_zero] at q0 q1 q2 q3 p0 p1 p2 p3
 have HRB := Lib.hid RB; have HR0 := Lib.hid R0; have HR1 := Lib.hid R1
 clear RB R0 R1
 go_wp2_with (go_at_call 29; refine (sameSamples_any _ _ _ _ _ _ xs ys _ (HA.out _ HRB.out) (HA'.out _ HRB.out) rfl rfl (by omega)).mono ?_; rintro e w1 ⟨rfl, q, rfl⟩; rw [HS.out])
 have HB1 := Lib.hid (HB.out _ HRB.out)
 have HB2 := Lib.hid (HB'.out _ HRB.out)
 go_loopw [5] (fun i wr => ∃ k : Nat, k ≤ ms.length ∧ i = .int .i64 k ∧ ∃ q, wr = W.drewN q) (fun i _ => ms.length - (intOf i).toNat)
 case atStart => exact ⟨0, Nat.zero_le _, rfl, q, rfl⟩
 case round =>
  obtain ⟨k, hk, rfl, q, rfl⟩ := hrel
  by_cases hlt : k < ms.length
  · obtain ⟨b, off, rfl, hc1, hc2⟩ := Rd.mark HB1.out hlt
    obtain ⟨b', off', rfl, hc1', hc2'⟩ := Rd.mark HB2.out hlt
    have hneq := neqMark ms[k].1 ms[k].1 ms[k].2 ms[k].2
    have ht : (!(ms[k].1 == ms[k].1 && ms[k].2.toList == ms[k].2.toList)) = false := by simp
    rw [ht] at hneq
    clear ht
    have i1 : (k : Int) < (ms.length : Int) := by omega
    go_wp2
    go_quiet (fail)
    go_wp2
    go_roundw
    case rel => exact ⟨k + 1, by omega, by go_num, _, rfl⟩
    case measure => simp [intOf]; omega
  · go_wp2
    go_ret
    exact ⟨rfl, HRB.out.os, HRB.out.tape, HRB.out.output, HRB.out.size, HRB.out.block⟩
theorem info185 : (Tryz.prog.info? 90).map (fun i => (i.zero, i.size, i.bytes)) = some (some (.agg #[.int .i64 0, .string ⟨#[]⟩]), 2, 24) := by kernel_rfl
theorem owned_rd {w : World} {B : Nat} {e : TypeId} {s n m c : Nat} {A : Option Addr} {vs : List Value} (h : w.ownsRow B e s (.slice A n c) m vs) : Rd w A vs := by
 obtain ⟨A', c', h1, h2⟩ := owned_slice h
 cases h1; exact h2
theorem owns_other {w w' : World} {B : Nat} {e : TypeId} {s n : Nat} {v : Value} {xs : List Value} (g : Nat) (h : w.ownsRow B e s v n xs) (hk : ∀ j, j < w.heap.size → j ≠ g → w'.heap[j]? = w.heap[j]?) (hv : v.ownBlock ≠ some g) : w'.ownsRow B e s v n xs := by
 refine ⟨h.1, ?_⟩
 rcases h.2 with h2 | ⟨g', cap, cur, h1, h2, h3, h4⟩
 · exact .inl h2
 · refine .inr ⟨g', cap, cur, h1, h2, (hk g' (Array.getElem?_eq_some_iff.1 h3).1 (fun e => hv ?_)).trans h3, h4⟩
   rw [h1, ← e]; rfl
set_option maxRecDepth 100000 in
set_option maxHeartbeats 4000000 in
theorem told_ok (st sp : Int) (A B : Option Addr) (c d : Nat) (xs : List Nat) (ms : List (Int × ByteArray)) (w : World) (hA : Rd w A (flts xs)) (hB : Rd w B (markC ms)) (hx : xs.length ≤ 1000000) (hm : ms.length ≤ 1000000) (hc : A = none → c = 0) :
 Calls Tryz.prog 16 #[.agg #[.int .i64 st, .int .i64 sp, .slice A xs.length c, .slice B ms.length d]] w fun e w' => ∃ A' c' B' d', e = .returned (.agg #[.int .i64 st, .int .i64 sp, .slice A' xs.length c', .slice B' ms.length d']) ∧ Rd w' A' (flts xs) ∧ Rd w' B' (markC ms) ∧ Below w.heap.size w w' := by
 have HA : Hid (∀ W, Below w.heap.size w W → Rd W A (flts xs)) := fun W h => hA.below h
 have HB : Hid (∀ W, Below w.heap.size w W → Rd W B (markC ms)) := fun W h => hB.below h
 clear hA hB
 have R0 := (Row.new w 33 [.int .i64 st, .int .i64 sp, .slice A xs.length c, .slice B ms.length d]).alloc (.cells zero4.toArray 25)
 have R1 := Row.new (w.alloc (.cells #[.int .i64 st, .int .i64 sp, .slice A xs.length c, .slice B ms.length d] 33)) 25 zero4
 rw [World.size_alloc] at R1
 have RB := ((Below.refl w.heap.size w).alloc (Nat.le_refl _) (.cells #[.int .i64 st, .int .i64 sp, .slice A xs.length c, .slice B ms.length d] 33)).alloc (by simp) (.cells zero4.toArray 25)
 go_enter Tryz.func16, Tryz.ntmps16
 go_upto_region 1 with fail
 refine genH (w0 := w) w.heap.size (w.heap.size + 1) _ _ _ _ R0 R1 RB ?_
 clear R0 R1 RB
 intro W R0 R1 RB
 have q0 := R0.cell 0; have q1 := R0.cell 1; have q2 := R0.cell 2
 simp only [List.getElem?_cons_succ, List.getElem?_cons_zero] at q0 q1 q2
 have hsz := R1.lt
 have hsz0 := R0.lt
 have HRB := Lib.hid RB; have HR0 := Lib.hid R0; have HR1 := Lib.hid R1
 have HF : Hid (∀ W', Below W.heap.size W W' → Calls Tryz.prog 27 #[.slice A xs.length c] W' fun e w' => ∃ A' c', e = .returned (.slice A' xs.length c') ∧ w'.ownsRow W'.heap.size 56 1 (.slice A' xs.length c') xs.length (flts xs) ∧ Below W'.heap.size W' w' ∧ w'.cell? ⟨w.heap.size, 0, none⟩ = some (.int .i64 st) ∧ w'.cell? ⟨w.heap.size, 1, none⟩ = some (.int .i64 sp)) := fun W' h =>
  (floats_any A xs.length c xs W' (HA.out _ (HRB.out.trans (h.mono HRB.out.size))) rfl hc (by omega)).mono fun e w' ⟨v, h1, h2, h3⟩ => by
    obtain ⟨A', c', rfl, -⟩ := owned_slice h2
    have hb := h.trans (h3.mono h.size)
    exact ⟨A', c', h1, h2, h3, (HR0.out.old hb).cell 0, (HR0.out.old hb).cell 1⟩
 clear RB R0 R1
 go_cut [3] (fun s3 wx => ∃ (g : Nat) (A' : Option Addr) (c' : Nat), s3 = .pointer (some ⟨g, 0, none⟩) ∧ Row wx g 25 [.int .i64 st, .int .i64 sp, .slice A' xs.length c', .slice none 0 0] ∧ (Value.slice A' xs.length c').ownBlock ≠ some g ∧ wx.ownsRow W.heap.size 56 1 (.slice A' xs.length c') xs.length (flts xs) ∧ W.heap.size ≤ g ∧ Below W.heap.size W wx)
 case first =>
  refine wp_region_held_drew (S := fun w' => w'.cell? ⟨w.heap.size, 0, none⟩ = some (.int .i64 st) ∧ w'.cell? ⟨w.heap.size, 1, none⟩ = some (.int .i64 sp) ∧ w'.cell? ⟨w.heap.size, 2, none⟩ = some (.slice A xs.length c) ∧ Below W.heap.size W w') (by kernel_rfl) ?_ (fun hHeld => ?_)
  · exact ⟨HR0.out.cell 0, HR0.out.cell 1, HR0.out.cell 2, (Below.refl _ _).drew⟩
  refine wpAnyH_take (i := 0) (v := ?_) rfl (by kernel_rfl) (by kernel_rfl) (by kernel_rfl) (fun _ _ _ h => h) (Or.inl ⟨by kernel_rfl, ?_⟩) hHeld ?_
  rotate_left
  · intro w1 hSw; (try dsimp only at hSw); go_simp <;> with_reducible rfl
  try simp only [Act.put, List.setIfInBounds_toArray, List.set_cons_zero, List.set_cons_succ]
  refine wpAnyH_take (i := 1) (v := ?_) rfl (by kernel_rfl) (by kernel_rfl) (by kernel_rfl) (fun _ _ _ h => h) (Or.inl ⟨by kernel_rfl, ?_⟩) hHeld ?_
  rotate_left
  · intro w1 hSw; (try dsimp only at hSw); go_simp <;> with_reducible rfl
  try simp only [Act.put, List.setIfInBounds_toArray, List.set_cons_zero, List.set_cons_succ]
  refine wpAnyH_take (i := 2) (v := ?_) rfl (by kernel_rfl) (by kernel_rfl) (by kernel_rfl) (fun _ _ _ h => h) (Or.inl ⟨by kernel_rfl, ?_⟩) hHeld ?_
  rotate_left
  · intro w1 hSw; (try dsimp only at hSw); go_simp <;> with_reducible rfl
  try simp only [Act.put, List.setIfInBounds_toArray, List.set_cons_zero, List.set_cons_succ]
  refine wpAnyH_take (i := 3) (v := ?_) rfl (by kernel_rfl) (by kernel_rfl) (by kernel_rfl) (fun _ _ _ h => h) (Or.inl ⟨by kernel_rfl, ?_⟩) hHeld ?_
  rotate_left
  · intro w1 hSw; (try dsimp only at hSw); go_simp <;> with_reducible rfl
  try simp only [Act.put, List.setIfInBounds_toArray, List.set_cons_zero, List.set_cons_succ]
  refine wpAnyH_take (i := 4) (v := ?_) rfl (by kernel_rfl) (by kernel_rfl) (by kernel_rfl) (fun _ _ _ h => h) (Or.inl ⟨by kernel_rfl, ?_⟩) hHeld ?_
  rotate_left
  · intro w1 hSw; (try dsimp only at hSw); go_simp <;> with_reducible rfl
  try simp only [Act.put, List.setIfInBounds_toArray, List.set_cons_zero, List.set_cons_succ]
  refine wpAnyH_take (i := 5) (v := ?_) rfl (by kernel_rfl) (by kernel_rfl) (by kernel_rfl) (fun _ _ _ h => h) (Or.inl ⟨by kernel_rfl, ?_⟩) hHeld ?_
  rotate_left
  · intro w1 hSw; (try dsimp only at hSw); go_simp <;> with_reducible rfl
  try simp only [Act.put, List.setIfInBounds_toArray, List.set_cons_zero, List.set_cons_succ]
  refine wpAnyH_ready (rs := [6, 8]) (by kernel_rfl) (by simp) ?_
  refine AllReadyH.cons rfl (fun K hK => ?_) (AllReadyH.cons rfl (fun K hK => ?_) (AllReadyH.nil))
  ·
   go_simp
   go_at_call 27
   refine (HF.out _ hHeld.2.2.2).mono ?_
   rintro e w2 ⟨A2, c2, rfl, ho2, hb2, -, -⟩
   try go_simp
   refine hK.out _ _ ?_ (fun hHeld => ?_)
   · exact ⟨keepC hHeld.1 hb2, keepC hHeld.2.1 hb2, keepC hHeld.2.2.1 hb2, hHeld.2.2.2.trans ((hb2).mono hHeld.2.2.2.size)⟩
   clear hK K
   try simp only [Act.put, List.setIfInBounds_toArray, List.set_cons_zero, List.set_cons_succ]
   refine wpAnyH_take (i := 7) (oi := { dst := some 13, op := Op.build 25 #[(0, Operand.tmp 7), (1, Operand.tmp 9), (2, Operand.tmp 12)], type := 25, pos := _, after := #[{ on := 1, ground := Ground.data }, { on := 3, ground := Ground.data }, { on := 6, ground := Ground.data }], guard := none }) (v := ?_) rfl (by kernel_rfl) (by kernel_rfl) (by kernel_rfl) (fun _ _ _ h => h) (Or.inl ⟨by kernel_rfl, ?_⟩) hHeld ?_
   rotate_left
   · intro w1 hSw; (try dsimp only at hSw); go_simp <;> with_reducible rfl
   try simp only [Act.put, List.setIfInBounds_toArray, List.set_cons_zero, List.set_cons_succ]
   refine wpAnyH_ready (rs := [8]) (by kernel_rfl) (by simp) ?_
   refine AllReadyH.cons rfl (fun K hK => ?_) (AllReadyH.nil)
   go_simp
   refine hK.out _ _ ?_ (fun hHeld => ?_)
   · exact ⟨keepC hHeld.1 ((Below.refl _ _).alloc (Nat.le_refl _) _), keepC hHeld.2.1 ((Below.refl _ _).alloc (Nat.le_refl _) _), keepC hHeld.2.2.1 ((Below.refl _ _).alloc (Nat.le_refl _) _), hHeld.2.2.2.trans ((((Below.refl _ _).alloc (Nat.le_refl _) _)).mono hHeld.2.2.2.size)⟩
   clear hK K
   try simp only [Act.put, List.setIfInBounds_toArray, List.set_cons_zero, List.set_cons_succ]
   refine wpAnyH_ready (rs := [9]) (by kernel_rfl) (by simp) ?_
   refine AllReadyH.cons rfl (fun K hK => ?_) (AllReadyH.nil)
   have zz := hHeld.2.2.2.size
   rw [World.size_alloc] at zz
   have zw := (((Below.refl _ W).drew.trans hb2)).size
   have hz := Row.new w2 25 zero4
   refine step_store_row rfl 25 _ _ rfl w2.heap.size [.int .i64 st, .int .i64 sp, .slice A2 xs.length c2, .slice none 0 0] rfl rfl 25 zero4 hz (by kernel_rfl) rfl (by simp [Value.oneCell']) ?_
   refine hK.out _ _ ?_ (fun hHeld => ?_)
   · exact ⟨(cell_far _ (by omega)).trans hHeld.1, (cell_far _ (by omega)).trans hHeld.2.1, (cell_far _ (by omega)).trans hHeld.2.2.1, Below.setRow hHeld.2.2.2 (by omega) _⟩
   clear hK K
   try simp only [Act.put, List.setIfInBounds_toArray, List.set_cons_zero, List.set_cons_succ]
   refine wpAnyH_done (by kernel_rfl) ?_ _
   go_wp2_with fail
   go_meet
   have zb : Below W.heap.size W w2 := (Below.refl _ W).drew.trans hb2
   refine ⟨w2.heap.size, A2, c2, rfl, hz.setRow _, fun e => ?_, owns_other w2.heap.size ho2 (fun j hj hne => (setRow_other _ _ _ _ hne).trans (((Below.refl w2.heap.size w2).alloc (Nat.le_refl _) _).block j hj)) (fun e => ?_), zb.size, Below.setRow (zb.alloc zb.size _) zb.size _⟩
   · have := (ho2.lt _ e).2; omega
   · have := (ho2.lt _ e).2; omega
  ·
   go_simp
   refine hK.out _ _ ?_ (fun hHeld => ?_)
   · exact ⟨keepC hHeld.1 ((Below.refl _ _).alloc (Nat.le_refl _) _), keepC hHeld.2.1 ((Below.refl _ _).alloc (Nat.le_refl _) _), keepC hHeld.2.2.1 ((Below.refl _ _).alloc (Nat.le_refl _) _), hHeld.2.2.2.trans ((((Below.refl _ _).alloc (Nat.le_refl _) _)).mono hHeld.2.2.2.size)⟩
   clear hK K
   try simp only [Act.put, List.setIfInBounds_toArray, List.set_cons_zero, List.set_cons_succ]
   refine wpAnyH_ready (rs := [6]) (by kernel_rfl) (by simp) ?_
   refine AllReadyH.cons rfl (fun K hK => ?_) (AllReadyH.nil)
   go_simp
   go_at_call 27
   refine (HF.out _ hHeld.2.2.2).mono ?_
   rintro e w2 ⟨A2, c2, rfl, ho2, hb2, -, -⟩
   try go_simp
   refine hK.out _ _ ?_ (fun hHeld => ?_)
   · exact ⟨keepC hHeld.1 hb2, keepC hHeld.2.1 hb2, keepC hHeld.2.2.1 hb2, hHeld.2.2.2.trans ((hb2).mono hHeld.2.2.2.size)⟩
   clear hK K
   try simp only [Act.put, List.setIfInBounds_toArray, List.set_cons_zero, List.set_cons_succ]
   refine wpAnyH_take (i := 7) (oi := { dst := some 13, op := Op.build 25 #[(0, Operand.tmp 7), (1, Operand.tmp 9), (2, Operand.tmp 12)], type := 25, pos := _, after := #[{ on := 1, ground := Ground.data }, { on := 3, ground := Ground.data }, { on := 6, ground := Ground.data }], guard := none }) (v := ?_) rfl (by kernel_rfl) (by kernel_rfl) (by kernel_rfl) (fun _ _ _ h => h) (Or.inl ⟨by kernel_rfl, ?_⟩) hHeld ?_
   rotate_left
   · intro w1 hSw; (try dsimp only at hSw); go_simp <;> with_reducible rfl
   try simp only [Act.put, List.setIfInBounds_toArray, List.set_cons_zero, List.set_cons_succ]
   refine wpAnyH_ready (rs := [9]) (by kernel_rfl) (by simp) ?_
   refine AllReadyH.cons rfl (fun K hK => ?_) (AllReadyH.nil)
   have zz := hHeld.2.2.2.size
   have hz : Row w2 W.heap.size 25 zero4 := Row.old (w := (W.drew.alloc (.cells zero4.toArray 25))) (Row.new W.drew 25 zero4) hb2
   refine step_store_row rfl 25 _ _ rfl W.heap.size [.int .i64 st, .int .i64 sp, .slice A2 xs.length c2, .slice none 0 0] rfl rfl 25 zero4 hz (by kernel_rfl) rfl (by simp [Value.oneCell']) ?_
   refine hK.out _ _ ?_ (fun hHeld => ?_)
   · exact ⟨(cell_far _ (by omega)).trans hHeld.1, (cell_far _ (by omega)).trans hHeld.2.1, (cell_far _ (by omega)).trans hHeld.2.2.1, Below.setRow hHeld.2.2.2 (by omega) _⟩
   clear hK K
   try simp only [Act.put, List.setIfInBounds_toArray, List.set_cons_zero, List.set_cons_succ]
   refine wpAnyH_done (by kernel_rfl) ?_ _
   go_wp2_with fail
   go_meet
   have zb : Below W.heap.size W w2 := ((Below.refl _ W).drew.alloc (Nat.le_refl _) _).trans (hb2.mono (by simp))
   have zs : W.heap.size < (W.drew.alloc (.cells zero4.toArray 25)).heap.size := by rw [World.size_alloc]; exact Nat.lt_succ_self _
   refine ⟨W.heap.size, A2, c2, rfl, hz.setRow _, fun e => ?_, owns_far ho2 _ _ zs (Nat.le_of_lt zs), Nat.le_refl _, Below.setRow zb (Nat.le_refl _) _⟩
   have h1 := (ho2.lt _ e).1
   exact absurd (Nat.lt_of_lt_of_le zs h1) (Nat.lt_irrefl _)
 case rest =>
  obtain ⟨g, A2, c2, rfl, hrow, hne, ho, hg, hbw⟩ := hcut
  have HB1 := Lib.hid (HB.out _ (HRB.out.trans (hbw.mono HRB.out.size)))
  have hr3 := (HR0.out.old hbw).cell 3
  simp only [List.getElem?_cons_succ, List.getElem?_cons_zero] at hr3
  have HBx := Lib.hid (HRB.out.trans (hbw.mono HRB.out.size))
  have HRow := Lib.hid hrow; have HO := Lib.hid ho; have HNe := Lib.hid hne
  have hgs : g < wc.heap.size := hrow.lt
  have HT1 := Lib.hid (HR1.out.old hbw)
  have HGW := Lib.hid hsz
  have HGS : Hid (w.heap.size + 1 < g ∧ g < wc.heap.size) := ⟨by omega, hgs⟩
  obtain ⟨im, him0, him1, him2, him3⟩ := info_parts info185
  clear hrow ho hne hbw hg hgs hsz hsz0 q0 q1 q2 HF HR0 HR1 HRB
  go_wp2
  go_loopg [17] ms.length (fun gg i wr => ∃ (k : Nat) (u : Value), k ≤ ms.length ∧ i = .int .i64 k ∧ gg = ms.length - k ∧ Hid (wr.ownsRow wc.heap.size 90 2 u k (markC (ms.take k))) ∧ Hid (Row wr g 25 [.int .i64 st, .int .i64 sp, .slice A2 xs.length c2, u]) ∧ Hid (∀ j, j < wc.heap.size → j ≠ g → wr.heap[j]? = wc.heap[j]?) ∧ Hid (Below w.heap.size w wr) ∧ Hid (wc.heap.size ≤ wr.heap.size))
  case atStart => exact ⟨0, .slice none 0 0, Nat.zero_le _, rfl, rfl, World.ownsRow_nil _ _ _ _, HRow, fun j _ _ => rfl, HBx, Nat.le_refl _⟩
  case round =>
   obtain ⟨k, u, hk, rfl, hgk, Ho, KR, KK, KB, KS⟩ := hrel
   subst hgk
   have hRdB : Rd wr B (markC ms) := HB.out _ KB.out
   by_cases hlt : k < ms.length
   · obtain ⟨b, off, hBb, hc1, hc2⟩ := Rd.mark hRdB hlt
     subst hBb
     obtain ⟨ix, hix⟩ : ∃ ix, ix = ms[k].1 := ⟨_, rfl⟩
     obtain ⟨nm, hnm⟩ : ∃ nm, nm = ms[k].2 := ⟨_, rfl⟩
     rw [← hix] at hc1; rw [← hnm] at hc2
     have HT : Hid (markC (ms.take (k + 1)) = markC (ms.take k) ++ [.int .i64 ix, .string nm]) := by
      unfold Hid; rw [List.take_succ_eq_append_getElem hlt, markC_app, hix, hnm]; simp [markC]
     clear hix hnm
     have N0 := Lib.hid (KR.out.alloc (.cells #[.int .i64 ix, .string nm] 117))
     have No := Lib.hid (Ho.out.alloc (.cells #[.int .i64 ix, .string nm] 117))
     have n3 := N0.out.cell 3
     simp only [List.getElem?_cons_succ, List.getElem?_cons_zero] at n3
     have hs1 := KS.out
     have hs2 := HGS.out.2
     have hs3 : g < wr.heap.size := by omega
     go_wp2_with (at_builtin; refine wpList_append_own_at _ rfl _ _ 23 rfl wc.heap.size 90 im (.agg #[.int .i64 0, .string ⟨#[]⟩]) 2 24 Tryz.underlying23 him0 him1 him2 him3 rfl (by decide) _ _ _ rfl (No.out.alloc _) ⟨wr.heap.size + 1, 0, none⟩ 1 1 [.int .i64 ix, .string nm] rfl rfl (news2 _ _ _ _ _ ?c1) ?c2 ?c3 ?c4 ?c5 ?_)
     case c1 => simp
     case c2 => simp [Value.oneCell']
     case c3 => unfold maxLen; omega
     case c4 => omega
     case c5 => simp; omega
     intro v' w3 ho hg3 _ hat
     have hst : Step (wr.alloc (.cells #[.int .i64 ix, .string nm] 117)) w3 u v' := Step.of_alloc hg3 (by rw [World.size_alloc, World.size_alloc]; exact hat)
     have hb3 := hst.below No.out (by simp; omega)
     have Hb3 : Hid (Below wc.heap.size wr w3) := (((Below.refl wc.heap.size wr).alloc hs1 _)).trans hb3
     have hr3 : Row w3 g 25 [.int .i64 st, .int .i64 sp, .slice A2 xs.length c2, u] := KR.out.below Hb3.out hs2
     have HR3 := Lib.hid hr3
     have m3 := hr3.cell 3
     have mf := hr3.free 3
     simp only [List.getElem?_cons_succ, List.getElem?_cons_zero] at m3
     have Ho3 : Hid (w3.ownsRow wc.heap.size 90 2 v' (k + 1) (markC (ms.take (k + 1)))) := by
      unfold Hid; rw [HT.out]; exact ho
     clear ho hg3 hat hst hb3 hr3 n3 hc1 hc2
     obtain ⟨A3, c3, rfl, -⟩ := owned_slice Ho3.out
     obtain ⟨v', hv'⟩ : ∃ v', v' = Value.slice A3 (k + 1) c3 := ⟨_, rfl⟩
     go_wp2
     go_roundg (ms.length - (k + 1))
     case measure => omega
     case rel =>
      have hz := Hb3.out.size
      rw [← hv'] at Ho3 ⊢
      refine ⟨k + 1, v', by omega, by go_num, rfl, ?_, HR3.out.set 3 v', ?_, ?_, ?_⟩
      · exact owns_other g Ho3.out (fun j _ hne => heap_setCell_other w3 ⟨g, 3, none⟩ j v' hne) (fun e => by have := (Ho3.out.lt _ e).1; omega)
      · exact fun j hj hne => ((heap_setCell_other w3 ⟨g, 3, none⟩ j v' hne).trans (Hb3.out.block j hj)).trans (KK.out j hj hne)
      · have h0 := HGS.out.1
        have h1 : Below w.heap.size w w3 := KB.out.trans (Hb3.out.mono (by omega))
        exact h1.setCell (p := ⟨g, 3, none⟩) (by show w.heap.size ≤ g; omega) v'
      · have h1 : Below wc.heap.size wr w3 := Hb3.out
        have h2 := ((Below.refl 0 w3).setCell (p := ⟨g, 3, none⟩) (Nat.zero_le _) v').size
        show wc.heap.size ≤ _
        omega
   · obtain rfl : k = ms.length := by omega
     obtain ⟨B2, d2, rfl, -⟩ := owned_slice Ho.out
     have hT1 : Row wr (w.heap.size + 1) 25 zero4 := (KK.out _ HT1.out.lt (by have := HGS.out.1; omega)).trans HT1.out
     have HT2 := Lib.hid hT1
     have h1 := HGW.out; have h2 := HGS.out
     clear hT1
     go_wp2_with (first
      | (refine wpList_load_row rfl 25 _ rfl g rfl 25 #[.int .i64 st, .int .i64 sp, .slice A2 xs.length c2, .slice B2 ms.length d2] (0, 0) _ KR.out Tryz.underlying25 rfl ?_ ?_; (kernel_rfl))
      | (refine wpList_store_row rfl 25 _ _ rfl (w.heap.size + 1) #[.int .i64 st, .int .i64 sp, .slice A2 xs.length c2, .slice B2 ms.length d2] rfl rfl 25 _ HT2.out ?_ ?_ ?_ ?_; (kernel_rfl); (rfl); (simp [Value.oneCell'])))
     have hrow : Row (wr.setRow (w.heap.size + 1) [Value.int .i64 st, .int .i64 sp, .slice A2 xs.length c2, .slice B2 ms.length d2].toArray) (w.heap.size + 1) 25 [.int .i64 st, .int .i64 sp, .slice A2 xs.length c2, .slice B2 ms.length d2] := HT2.out.setRow _
     refine bodyPost_ret (results_row1 rfl _ _ (w.heap.size + 1) 25 _ (0, 0) _ rfl hrow Tryz.underlying25 rfl (by kernel_rfl)) rfl ⟨A2, c2, B2, d2, rfl, ?_, ?_, ?_⟩
     · exact owned_rd (owns_far (owns_other g HO.out (fun j hj hne => KK.out j hj hne) HNe.out) _ _ h1 (Nat.zero_le _) (B' := 0))
     · have := Ho.out; rw [List.take_of_length_le (Nat.le_refl _)] at this
       exact owned_rd (owns_far this _ _ (by omega) (Nat.zero_le _) (B' := 0))
     · exact Below.setRow KB.out (by omega) _
end Go.Proofs.YtjdniebjhilooaaGreatDoor
namespace Go.Proofs.YtjdniebjhilooaaGreatDoor
set_option linter.all false
open Go.RowKit Go.Maps Go.Fl
def heB (b : Nat) (v : Value) (wd cd : ByteArray) : List Value := [.map (some b), v, .string wd, .string cd]
def lettB (cd : ByteArray) : ByteArray := if has (LD 26) (.string cd.data.toList) then (match (LD 26).atKey (.string cd.data.toList) (.lit (.string [])) with | .lit (.string l) => ⟨l.toArray⟩ | _ => ⟨#[]⟩) else ⟨#[63]⟩
def HeI (w0 : World) (g b : Nat) (wds : List ByteArray) (wd cd : ByteArray) (W : World) : Prop :=
 w0.heap.size ≤ g ∧ ∃ v, Row W g 175 (heB b v wd cd) ∧ W.ownsMap Tryz.prog 9 (plainElem Tryz.prog 9) b 26 (LD 26) ∧ W.ownsRow w0.heap.size 9 1 v wds.length (strs wds) ∧ Below w0.heap.size w0 W
theorem not_row {W : World} {g : Nat} {vs : List Value} {B n : Nat} {v : Value} {xs : List Value} (h : Row W g 175 vs) (hr : W.ownsRow B 9 1 v n xs) : v.ownBlock = none ∨ v.ownBlock ≠ some g := by
 rcases hr.2 with ⟨h1, _⟩ | ⟨k, cap, cur, h1, _, h3, _⟩
 · exact .inl (by rw [h1]; rfl)
 · refine .inr ?_
   rw [h1]
   intro e
   have e2 : k = g := by simpa [Value.ownBlock] using e
   subst e2
   rw [show W.heap[k]? = _ from h] at h3
   cases h3
theorem not_map {H : Type} {W : World} {g b n : Nat} {vs : List Value} {R : Value → Option (DataW H × List MemPlace)} {D : DataW H} {k t : TypeId} (h : Row W g t vs) (hm : W.ownsMap Tryz.prog k R b n D) : b ≠ g := by
 intro e; subst e
 obtain ⟨es, clock, h1, _⟩ := hm
 rw [show W.heap[b]? = _ from h] at h1
 cases h1
theorem HeI.set {w0 W : World} {g b : Nat} {wds : List ByteArray} {wd cd wd' cd' : ByteArray} {v : Value} {i : Nat} {u : Value} (hg : w0.heap.size ≤ g) (h1 : Row W g 175 (heB b v wd cd)) (h2 : W.ownsMap Tryz.prog 9 (plainElem Tryz.prog 9) b 26 (LD 26)) (h3 : W.ownsRow w0.heap.size 9 1 v wds.length (strs wds)) (h4 : Below w0.heap.size w0 W)
 (hs : (heB b v wd cd).set i u = heB b v wd' cd') : HeI w0 g b wds wd' cd' (W.setCell ⟨g, i, none⟩ u) := by
 have hgr : W.grownBy (W.setCell ⟨g, i, none⟩ u) (some g) := ⟨rfl, rfl, rfl, by simp, fun k _ hk => heap_setCell_other _ _ _ _ (fun e => hk (by rw [e]))⟩
 refine ⟨hg, v, by rw [← hs]; exact h1.set i u, h2.kept hgr (fun e => not_map h1 h2 (Option.some.inj e)), h3.kept hgr (not_row h1 h3), h4.setCell (by simpa using hg) _⟩
set_option maxRecDepth 100000 in
set_option maxHeartbeats 400000 in
theorem on_any (w0 : World) (g b : Nat) (wds : List ByteArray) (wd cd : ByteArray) (n d : Int) (w : World) (hI : HeI w0 g b wds wd cd w) (hn : 0 ≤ n ∧ n ≤ 100000) (hd : 0 ≤ d ∧ d ≤ 100) (hc : cd.size ≤ 100000) :
 Calls Tryz.prog 91 #[.pointer (some ⟨g, 0, none⟩), .int .i64 n, .int .i64 d] w fun e w' => e = .returned (.tuple #[]) ∧ HeI w0 g b wds wd (cd ++ if n < 2 * d then ⟨#[48]⟩ else ⟨#[49]⟩) w' := by
 obtain ⟨hg, v, h1, h2, h3, h4⟩ := hI
 have c3 : w.cell? ⟨g, 3, none⟩ = some (.string cd) := by rw [h1.cell]; rfl
 have f3 := h1.free 3
 have hR : ∀ u, Hid (HeI w0 g b wds wd u (w.setCell ⟨g, 3, none⟩ (.string u))) := fun u => HeI.set hg h1 h2 h3 h4 rfl
 have HR := Lib.hid hR
 clear hR h1 h2 h3 h4
 by_cases h : n < 2 * d
 · go_enter Tryz.func91, Tryz.ntmps91
   go_wp2
   go_end0
   exact ⟨rfl, (HR.out _).out⟩
 · go_enter Tryz.func91, Tryz.ntmps91
   go_wp2
   go_end0
   exact ⟨rfl, (HR.out _).out⟩
def shortD : DataW Unit → Bool
 | .map es => es.all fun p => match p.2 with | .lit (.string l) => decide (l.length ≤ 1) | _ => false
 | _ => false
theorem LD_short : shortD (LD 26) = true := by kernel_rfl
theorem atKey_short {D : DataW Unit} (h : shortD D = true) {kl : Lit} {s : List UInt8} (hs : D.atKey kl (.lit (.string [])) = .lit (.string s)) : s.length ≤ 1 := by
 cases D with
 | map es =>
   unfold DataW.atKey at hs
   simp only at hs
   split at hs
   · rename_i p hp
     have hm := List.mem_of_find?_eq_some hp
     have := List.all_eq_true.1 h p hm
     rw [hs] at this
     simpa using this
   · cases hs; exact Nat.zero_le _
 | _ => cases h
theorem look_any {b : Nat} {W : World} (h : W.ownsMap Tryz.prog 9 (plainElem Tryz.prog 9) b 26 (LD 26)) (cd : ByteArray) (hc : cd.size ≤ 100000) :
 ∃ s ok, (Instr.lookup 172 (.map (some b)) (.string cd) true).run Tryz.prog W = .ok (.tuple #[.string s, .bool ok]) W ∧ (lettB cd = if ok then s else ⟨#[63]⟩) ∧ s.size ≤ 1 ∧ ok = has (LD 26) (.string cd.data.toList) ∧ s = (match (LD 26).atKey (.string cd.data.toList) (.lit (.string [])) with | .lit (.string l) => ⟨l.toArray⟩ | _ => ⟨#[]⟩) := by
 have hkey := WideMaps.keyOf_string_mk (P := Tryz.prog) Tryz.underlying9 (s := cd) (by unfold maxLen; omega)
 have hz : (zeroValue 9).run Tryz.prog W = .ok (.string ⟨#[]⟩) W := by kernel_rfl
 obtain ⟨v, ps, hrun, hv⟩ := h.look_ok strKey Tryz.underlying172 hz (plainElem_string (H := Unit) (P := Tryz.prog) Tryz.underlying9 (s := ⟨#[]⟩) (by show 0 ≤ maxLen; exact Nat.zero_le _)) hkey
 obtain ⟨s, rfl, hs, _⟩ := plainElem_string_inv Tryz.underlying9 hv
 have hs3 := atKey_short LD_short (congrArg Prod.fst hs).symm.symm
 refine ⟨s, _, hrun, ?_, by show s.data.size ≤ 1; rw [← Array.length_toList]; exact hs3, rfl, ?_⟩
 · unfold lettB
   have hs2 : (LD 26).atKey (.string cd.data.toList) (.lit (.string [])) = .lit (.string s.data.toList) := (congrArg Prod.fst hs)
   rw [hs2]
 · have hs2 : (LD 26).atKey (.string cd.data.toList) (.lit (.string [])) = .lit (.string s.data.toList) := (congrArg Prod.fst hs)
   rw [hs2]
def lettI (wd cd : ByteArray) : ByteArray := if cd.toList.isEmpty then wd else wd ++ lettB cd
set_option maxRecDepth 100000 in
set_option maxHeartbeats 400000 in
theorem endLetter_any (w0 : World) (g b : Nat) (wds : List ByteArray) (wd cd : ByteArray) (w : World) (hI : HeI w0 g b wds wd cd w) (hc : cd.size ≤ 100000) (hw : wd.size ≤ 100000) :
 Calls Tryz.prog 129 #[.pointer (some ⟨g, 0, none⟩)] w fun e w' => e = .returned (.tuple #[]) ∧ HeI w0 g b wds (lettI wd cd) ⟨#[]⟩ w' := by
 obtain ⟨hg, v, h1, h2, h3, h4⟩ := hI
 have c0 : w.cell? ⟨g, 0, none⟩ = some (.map (some b)) := by rw [h1.cell]; rfl
 have c2 : w.cell? ⟨g, 2, none⟩ = some (.string wd) := by rw [h1.cell]; rfl
 have c3 : w.cell? ⟨g, 3, none⟩ = some (.string cd) := by rw [h1.cell]; rfl
 have f2 := h1.free 2
 have f3 := h1.free 3
 cases h : cd.toList.isEmpty
 · have q1 : ¬ cd.toList = [] := by intro e; rw [e] at h; cases h
   have q2 : (cd.toList == []) = false := by simpa using q1
   have HLI : Hid (lettI wd cd = wd ++ lettB cd) := by unfold Hid lettI; rw [h]; rfl
   obtain ⟨s, ok, hrun, hl, hsz, hok, hse⟩ := look_any h2 cd hc
   have hrunq : ∀ q, (Instr.lookup 172 (.map (some b)) (.string cd) true).run Tryz.prog (w.drewN q) = .ok (.tuple #[.string s, .bool ok]) (w.drewN q) := fun q => by
    obtain ⟨s2, ok2, hrun2, _, _, hok2, hse2⟩ := look_any (W := w.drewN q) h2 cd hc
    rw [hok2, hse2, ← hok, ← hse] at hrun2
    exact hrun2
   have hR : ∀ q, Hid (HeI w0 g b wds (wd ++ lettB cd) ⟨#[]⟩ (((w.drewN q).setCell ⟨g, 2, none⟩ (.string (wd ++ lettB cd))).setCell ⟨g, 3, none⟩ (.string ⟨#[]⟩))) := fun q => by
    obtain ⟨_, v', k1, k2, k3, k4⟩ := HeI.set (W := w.drewN q) (wd' := wd ++ lettB cd) (cd' := cd) (i := 2) (u := .string (wd ++ lettB cd)) hg h1 h2 h3 (below_drewN h4 q) rfl
    exact HeI.set hg k1 k2 k3 k4 rfl
   have HR := Lib.hid hR
   have HL := Lib.hid hl
   clear h1 h2 h3 h4 hrun hR hl hok hse
   cases ok
   all_goals
    go_enter Tryz.func129, Tryz.ntmps129
    go_wp2
    go_quiet (fail)
    go_wp2
    go_end0
    exact ⟨rfl, by have h := (HR.out nq).out; rw [HL.out] at h; rw [HLI.out, HL.out]; exact h⟩
 · have q2 : (cd.toList == []) = true := by have := List.isEmpty_iff.1 h; simpa using this
   have HLI : Hid (lettI wd cd = wd) := by unfold Hid lettI; rw [h]; rfl
   have he : cd = ⟨#[]⟩ := by
    have := List.isEmpty_iff.1 h
    rw [ByteArray.toList_eq] at this
    exact ByteArray.ext (by simpa using this)
   have HI : Hid (HeI w0 g b wds wd ⟨#[]⟩ w) := ⟨hg, v, by rw [← he]; exact h1, h2, h3, h4⟩
   clear h1 h2 h3 h4 he
   go_enter Tryz.func129, Tryz.ntmps129
   go_wp2
   refine bodyPost_ret (results_none rfl _ _ _) rfl ?_
   exact ⟨rfl, by rw [HLI.out]; exact HI.out⟩
def addW (wds : List ByteArray) (wd : ByteArray) : List ByteArray := if wd.toList.isEmpty then wds else wds ++ [wd]
theorem info9 : (Tryz.prog.info? 9).map (fun i => (i.zero, i.size, i.bytes)) = some (some (.string ⟨#[]⟩), 1, 16) := by kernel_rfl
theorem ownsRow_succA {W : World} {base : Nat} {e : TypeId} {size : Nat} {v : Value} {k : Nat} {xs : List Value} (h : W.ownsRow base e size v (k + 1) xs) : ∃ g cap, v = .slice (some ⟨g, 0, none⟩) (k + 1) cap := by
 rcases h.2 with ⟨_, h0⟩ | ⟨g, cap, _, h1, _⟩
 · omega
 · exact ⟨g, cap, h1⟩
theorem HeI.app {w0 W W2 : World} {g b : Nat} {wds : List ByteArray} {wd cd : ByteArray} {v v' : Value} {o : Obj} (hg : w0.heap.size ≤ g) (h1 : Row W g 175 (heB b v wd cd)) (h2 : W.ownsMap Tryz.prog 9 (plainElem Tryz.prog 9) b 26 (LD 26)) (h3 : W.ownsRow w0.heap.size 9 1 v wds.length (strs wds)) (h4 : Below w0.heap.size w0 W)
 (hgr : (W.alloc o).grownBy W2 v.ownBlock) (ho : W2.ownsRow w0.heap.size 9 1 v' (wds.length + 1) (strs wds ++ [.string wd])) : Row W2 g 175 (heB b v wd cd) ∧ HeI w0 g b (wds ++ [wd]) wd cd (W2.setCell ⟨g, 1, none⟩ v') := by
 have hnr := not_row h1 h3
 have hne : some g ≠ v.ownBlock := by
  rcases hnr with e | e
  · rw [e]; exact fun e => by cases e
  · exact fun e2 => e e2.symm
 have hbne : some b ≠ v.ownBlock := by
  intro e
  rcases h3.2 with ⟨e1, _⟩ | ⟨k, cap, cur, e1, _, e3, _⟩
  · rw [e1] at e; cases e
  · rw [e1] at e
    have e2 : b = k := by simpa [Value.ownBlock] using e
    subst e2
    obtain ⟨es, clock, m1, _⟩ := h2
    rw [e3] at m1; cases m1
 have k1 : Row W2 g 175 (heB b v wd cd) := (h1.alloc o).grown hgr hne
 have k2 := (h2.alloc o).kept hgr hbne
 have k4 : Below w0.heap.size w0 W2 := (h4.alloc h4.size o).grown hgr (by have := h4.size; simp; omega) (fun k hk => (h3.lt k hk).1)
 have hgr2 : W2.grownBy (W2.setCell ⟨g, 1, none⟩ v') (some g) := ⟨rfl, rfl, rfl, by simp, fun k _ hk => heap_setCell_other _ _ _ _ (fun e => hk (by rw [e]))⟩
 refine ⟨k1, hg, v', k1.set 1 v', k2.kept hgr2 (fun e => not_map k1 k2 (Option.some.inj e)), ?_, k4.setCell (by simpa using hg) _⟩
 have hl : (wds ++ [wd]).length = wds.length + 1 := by simp
 rw [hl, show strs (wds ++ [wd]) = strs wds ++ [.string wd] by simp [strs]]
 exact ho.kept hgr2 (not_row k1 ho)
theorem HeI.gen {p : World → Prop} {w0 W : World} {g b : Nat} {wds : List ByteArray} {wd cd : ByteArray} (h : HeI w0 g b wds wd cd W) (k : ∀ W, HeI w0 g b wds wd cd W → p W) : p W := k W h
theorem lettB_size {b : Nat} {W : World} (h : W.ownsMap Tryz.prog 9 (plainElem Tryz.prog 9) b 26 (LD 26)) (cd : ByteArray) (hc : cd.size ≤ 100000) : (lettB cd).size ≤ 1 := by
 obtain ⟨s, ok, _, hl, hs, _⟩ := look_any h cd hc
 rw [hl]; split
 · exact hs
 · exact Nat.le_refl 1
theorem lettI_size {w0 : World} {g b : Nat} {wds : List ByteArray} {wd cd : ByteArray} {W : World} (hI : HeI w0 g b wds wd cd W) (hc : cd.size ≤ 100000) : (lettI wd cd).size ≤ wd.size + 1 := by
 obtain ⟨_, v, _, h2, _, _⟩ := hI
 have := lettB_size h2 cd hc
 unfold lettI; split
 · omega
 · rw [ByteArray.size_append]; omega
set_option maxRecDepth 100000 in
set_option maxHeartbeats 1000000 in
theorem endWord_any (w0 : World) (g b : Nat) (wds : List ByteArray) (wd cd : ByteArray) (w : World) (hI : HeI w0 g b wds wd cd w) (hc : cd.size ≤ 100000) (hw : wd.size ≤ 100000) (hl : wds.length ≤ 100000) :
 Calls Tryz.prog 93 #[.pointer (some ⟨g, 0, none⟩)] w fun e w' => e = .returned (.tuple #[]) ∧ HeI w0 g b (addW wds (lettI wd cd)) ⟨#[]⟩ ⟨#[]⟩ w' := by
 have HE := Lib.hid (endLetter_any w0 g b wds wd cd w hI hc hw)
 obtain ⟨wd1, hwd1⟩ : ∃ wd1, wd1 = lettI wd cd := ⟨_, rfl⟩
 rw [← hwd1] at HE ⊢
 clear hI hwd1
 cases h : wd1.toList.isEmpty
 · have q1 : ¬ wd1.toList = [] := by intro e; rw [e] at h; cases h
   have q2 : (wd1.toList == []) = false := by simpa using q1
   have HA : Hid (addW wds wd1 = wds ++ [wd1]) := by unfold Hid addW; rw [h]; rfl
   go_enter Tryz.func93, Tryz.ntmps93
   go_wp2_with fail
   refine HE.out.mono ?_
   rintro e w1 ⟨rfl, hg, v, h1, h2, h3, h4⟩
   have c1 : w1.cell? ⟨g, 1, none⟩ = some v := by rw [h1.cell]; rfl
   have c2 : w1.cell? ⟨g, 2, none⟩ = some (.string wd1) := by rw [h1.cell]; rfl
   have f1 := h1.free 1
   have f2 := h1.free 2
   have nn1 := World.new_ne w1 ⟨g, 1, none⟩ c1
   have nn2 := World.new_ne w1 ⟨g, 2, none⟩ c2
   have a1 : ∀ o, (w1.alloc o).cell? ⟨g, 1, none⟩ = some v := fun o => keepC c1 ((Below.refl _ _).alloc (Nat.le_refl _) o)
   have H1 := Lib.hid h1; have H2 := Lib.hid h2; have H3 := Lib.hid h3; have H4 := Lib.hid h4
   clear h1 h2 h3 h4
   go_upto_region 2 with fail
   go_region_law (refine step_app rfl (.tmp 13) (.tmp 18) 78 rfl w0.heap.size 9 (.string ⟨#[]⟩) 1 16 Tryz.underlying78 info9 rfl (by decide) v wds.length (strs wds) rfl (H3.out.alloc _) w1.heap.size 1 1 [.string wd1] rfl 9 (Row.new w1 9 [.string wd1]) rfl (by simp [Value.oneCell']) (by unfold maxLen; omega) (by omega) (by have := H4.out.size; simp; omega) ?_; intro v' w2 ho2 hg2; obtain ⟨gq, cq, rfl⟩ := ownsRow_succA ho2; obtain ⟨k1, HI2⟩ := HeI.app (W := w1.drew) hg H1.out H2.out H3.out H4.out.drew (w0 := w0) (v := v) (o := .cells #[.string wd1] 9) hg2 ho2; have d1 : w2.cell? ⟨g, 1, none⟩ = some v := (by rw [k1.cell]; rfl); have e1 := k1.free 1; have HI2 := Lib.hid HI2; have K1 := Lib.hid k1; clear k1 ho2 hg2)
   all_goals
    refine HI2.out.gen ?_
    clear HI2 H1 H2 H3 H4 nn1 nn2 a1 c1 c2 f1 f2
    rintro w3 ⟨_, v3, m1, m2, m3, m4⟩
    have d2 : w3.cell? ⟨g, 2, none⟩ = some (.string wd1) := by rw [m1.cell]; rfl
    have e2 := m1.free 2
    have HF := Lib.hid (HeI.set (i := 2) (u := .string ⟨#[]⟩) (wd' := ⟨#[]⟩) (cd' := ⟨#[]⟩) hg m1 m2 m3 m4 rfl)
    clear m1 m2 m3 m4
    go_wp2
    go_end0
    exact ⟨rfl, by rw [HA.out]; exact HF.out⟩
 · have q2 : (wd1.toList == []) = true := by have := List.isEmpty_iff.1 h; simpa using this
   have HA : Hid (addW wds wd1 = wds) := by unfold Hid addW; rw [h]; rfl
   have he : wd1 = ⟨#[]⟩ := by
    have := List.isEmpty_iff.1 h
    rw [ByteArray.toList_eq] at this
    exact ByteArray.ext (by simpa using this)
   have HEE := Lib.hid he
   clear he
   go_enter Tryz.func93, Tryz.ntmps93
   go_wp2_with fail
   refine HE.out.mono ?_
   rintro e w1 ⟨rfl, hI1⟩
   have HI1 : Hid (HeI w0 g b wds ⟨#[]⟩ ⟨#[]⟩ w1) := by unfold Hid; rw [HEE.out] at hI1; exact hI1
   obtain ⟨hg, v, h1, h2, h3, h4⟩ := hI1
   have c2 : w1.cell? ⟨g, 2, none⟩ = some (.string wd1) := by rw [h1.cell]; rfl
   clear h1 h2 h3 h4
   go_wp2
   refine bodyPost_ret (results_none rfl _ _ _) rfl ?_
   exact ⟨rfl, by rw [HA.out]; exact HI1.out⟩
end Go.Proofs.YtjdniebjhilooaaGreatDoor
namespace Go.Proofs.YtjdniebjhilooaaGreatDoor
set_option linter.all false
open Go.RowKit Go.Fl
def bools (bs : List Bool) : List Value := bs.map Value.bool
theorem Rd.bool {w : World} {A : Option Addr} {xs : List Bool} (h : Rd w A (bools xs)) {j : Nat} (hj : j < xs.length) : ∃ b off, A = some ⟨b, off, none⟩ ∧ w.cell? ⟨b, off + j, none⟩ = some (.bool xs[j]) := by
 obtain ⟨b, off, h1, h2⟩ := Rd.at h (j := j) (by simpa [bools] using hj)
 exact ⟨b, off, h1, by rw [h2]; simp [bools]⟩
def gapsGo : List Bool → Nat → List (Int × Int) → List (Int × Int)
 | [], _, sp => sp
 | b :: bs, i, sp => gapsGo bs (i + 1) (if b then sp else widL sp i)
def gapsL (bs : List Bool) : List (Int × Int) := gapsGo bs 0 []
theorem gapsGo_drop {bs : List Bool} {k : Nat} (hk : k < bs.length) (sp : List (Int × Int)) : gapsGo (bs.drop k) k sp = gapsGo (bs.drop (k + 1)) (k + 1) (if bs[k] then sp else widL sp k) := by
 rw [List.drop_eq_getElem_cons hk, gapsGo]
set_option maxHeartbeats 400000 in
theorem not_any (b : Bool) (w : World) : Calls Tryz.prog 82 #[.bool b] w fun e w' => e = .returned (.bool (!b)) ∧ w = w' := by
 go_enter Tryz.func82, Tryz.ntmps82
 go_wp2
 go_ret
 exact ⟨rfl, rfl⟩
set_option maxRecDepth 100000 in
set_option maxHeartbeats 1000000 in
theorem spansWhere_any (A : Option Addr) (n c : Nat) (bs : List Bool) (w : World) (hA : Rd w A (bools bs)) (hn : n = bs.length) (hm : bs.length ≤ 4096) :
 Calls Tryz.prog 81 #[.slice A n c, .func (.func 82) #[] #[]] w fun e w' => ∃ v, e = .returned v ∧ w'.ownsRow w.heap.size 70 2 v (gapsL bs).length (spanC (gapsL bs)) ∧ Below w.heap.size w w' := by
 subst hn
 have HA := Lib.hid hA
 clear hA
 go_enter Tryz.func81, Tryz.ntmps81
 go_wp2
 go_loopw [5, 10] (fun v i wr => ∃ (k : Nat) (sp : List (Int × Int)), k ≤ bs.length ∧ i = .int .i64 k ∧ Hid (sp.length ≤ k) ∧ Hid (gapsGo (bs.drop k) k sp = gapsL bs) ∧ Hid (wr.ownsRow w.heap.size 70 2 v sp.length (spanC sp)) ∧ Hid (Below w.heap.size w wr)) (fun _ i _ => bs.length - (intOf i).toNat)
 case atStart => exact ⟨0, [], Nat.zero_le _, rfl, Nat.le_refl _, rfl, World.ownsRow_nil _ _ _ _, Below.refl _ _⟩
 case round =>
  obtain ⟨k, sp, hk, rfl, Hl, Hg, Ho, Hb⟩ := hrel
  by_cases hlt : k < bs.length
  · obtain ⟨b, off, hAb, hc⟩ := Rd.bool (HA.out.below Hb.out) hlt
    subst hAb
    have hgd := gapsGo_drop hlt sp
    rw [Hg.out] at hgd
    obtain ⟨x, hx⟩ : ∃ x, x = bs[k] := ⟨_, rfl⟩
    rw [← hx] at hc hgd
    have Hgd := Lib.hid hgd
    clear hgd hx
    cases x
    · have hl6 : Hid (sp.length ≤ 1000000) := by unfold Hid; have := Hl.out; omega
      have hi9 : Hid (0 ≤ (k : Int) ∧ (k : Int) ≤ 1000000000) := by unfold Hid; omega
      go_wp2_with (first
       | (go_at_call 82; refine (not_any _ _).mono ?_; rintro e w1 ⟨rfl, rfl⟩)
       | (go_at_call 75; refine (widened_any w.heap.size _ sp (k : Int) _ Ho.out Hb.out.size hl6.out hi9.out).mono ?_; rintro e w2 ⟨v', rfl, ho2, hst2⟩; have Hb2 := Lib.hid (Hb.out.trans (hst2.below Ho.out Hb.out.size)); have Ho2 := Lib.hid ho2; clear ho2 hst2))
      go_roundw
      case rel => exact ⟨k + 1, widL sp k, by omega, by go_num, by have := widL_le sp k; have := Hl.out; show _ ≤ _; omega, by show _ = _; rw [Hgd.out]; rfl, Ho2, Hb2⟩
      case measure => simp [intOf]; omega
    · go_wp2_with (go_at_call 82; refine (not_any _ _).mono ?_; rintro e w1 ⟨rfl, rfl⟩)
      go_roundw
      case rel => exact ⟨k + 1, sp, by omega, by go_num, by have := Hl.out; show _ ≤ _; omega, by show _ = _; rw [Hgd.out]; rfl, Ho, Hb⟩
      case measure => simp [intOf]; omega
  · obtain rfl : k = bs.length := by omega
    have hg : sp = gapsL bs := by have h := Hg.out; rwa [List.drop_of_length_le (Nat.le_refl _)] at h
    have Hgl := Lib.hid hg
    clear hg
    go_wp2
    go_ret
    exact ⟨_, rfl, by rw [← Hgl.out]; exact Ho.out, Hb.out⟩
def absSum : List Int → List Int → Int
 | x :: xs, y :: ys => max (x - y) (y - x) + absSum xs ys
 | _, _ => 0
theorem absSum_take (xs ys : List Int) (k : Nat) (hx : k < xs.length) (hy : k < ys.length) : absSum (xs.take (k + 1)) (ys.take (k + 1)) = absSum (xs.take k) (ys.take k) + max (xs[k] - ys[k]) (ys[k] - xs[k]) := by
 induction xs generalizing ys k with
 | nil => simp at hx
 | cons x xs ih => cases ys with
   | nil => simp at hy
   | cons y ys =>
     cases k with
     | zero => simp [absSum]
     | succ k =>
       have := ih ys k (by simpa using hx) (by simpa using hy)
       simp only [List.take_succ_cons, absSum, List.getElem_cons_succ] at this ⊢
       omega
theorem absSum_bd (xs ys : List Int) (hx : ∀ x ∈ xs, x.natAbs ≤ 65536) (hy : ∀ y ∈ ys, y.natAbs ≤ 65536) : 0 ≤ absSum xs ys ∧ absSum xs ys ≤ 131072 * xs.length := by
 induction xs generalizing ys with
 | nil => cases ys <;> simp [absSum]
 | cons x xs ih => cases ys with
   | nil => simp [absSum]; omega
   | cons y ys =>
     have h1 := ih ys (fun x h => hx x (List.mem_cons_of_mem _ h)) (fun y h => hy y (List.mem_cons_of_mem _ h))
     have h2 := hx x (List.mem_cons_self ..)
     have h3 := hy y (List.mem_cons_self ..)
     simp only [absSum, List.length_cons]
     omega
def difN (xs ys : List Int) : Int := (absSum xs ys).tdiv (gcdI (absSum xs ys) xs.length)
def difD (xs ys : List Int) : Int := (xs.length : Int) / gcdI (absSum xs ys) xs.length
set_option maxRecDepth 100000 in
set_option maxHeartbeats 300000 in
theorem difference_any (A B : Option Addr) (c d : Nat) (xs ys : List Int) (n : Nat) (w : World) (hA : Rd w A (ints xs)) (hB : Rd w B (ints ys)) (hn : n = xs.length) (hl : ys.length = xs.length) (h0 : 0 < xs.length) (h1 : xs.length ≤ 4096) (hx : ∀ x ∈ xs, x.natAbs ≤ 65536) (hy : ∀ y ∈ ys, y.natAbs ≤ 65536) :
 Calls Tryz.prog 100 #[.slice A n c, .slice B n d] w fun e w' => e = .returned (.agg #[.int .i64 (difN xs ys), .int .i64 (difD xs ys)]) ∧ Below w.heap.size w w' := by
 subst hn
 have HL := Lib.hid hl; have HX := Lib.hid hx; have HY := Lib.hid hy
 have HA : Hid (∀ W, Below w.heap.size w W → Rd W A (ints xs)) := fun W h => hA.below h
 have HB : Hid (∀ W, Below w.heap.size w W → Rd W B (ints ys)) := fun W h => hB.below h
 clear hl hx hy hA hB
 go_enter Tryz.func100, Tryz.ntmps100
 go_upto_region 1 with fail
 refine genF w.heap.size 110 [.int .i64 0, .int .i64 0] (Row.new w 110 [.int .i64 0, .int .i64 0]) ((Below.refl w.heap.size w).alloc (Nat.le_refl _) _) ?_
 intro W R0 RB
 have HR := Lib.hid R0; have HRB := Lib.hid RB
 clear R0 RB
 go_wp2
 go_loopw [5, 9] (fun s i wr => ∃ k : Nat, k ≤ xs.length ∧ i = .int .i64 k ∧ s = .int .i64 (absSum (xs.take k) (ys.take k)) ∧ ∃ q, wr = W.drewN q) (fun _ i _ => xs.length - (intOf i).toNat)
 case atStart => exact ⟨0, Nat.zero_le _, rfl, by simp [absSum], 0, rfl⟩
 case round =>
  obtain ⟨k, hk, rfl, rfl, q, rfl⟩ := hrel
  by_cases hlt : k < xs.length
  · have hlt2 : k < ys.length := by rw [HL.out]; exact hlt
    obtain ⟨b, off, hAb, hc1⟩ := Rd.int (HA.out _ HRB.out) hlt
    obtain ⟨b', off', hBb, hc2⟩ := Rd.int (HB.out _ HRB.out) hlt2
    subst hAb; subst hBb
    have hs := absSum_take xs ys k hlt hlt2
    have hb := absSum_bd (xs.take k) (ys.take k) (fun x h => HX.out x (List.mem_of_mem_take h)) (fun x h => HY.out x (List.mem_of_mem_take h))
    rw [List.length_take] at hb
    have hx1 := HX.out _ (List.getElem_mem hlt)
    have hy1 := HY.out _ (List.getElem_mem hlt2)
    obtain ⟨x, hxx⟩ : ∃ x, x = xs[k] := ⟨_, rfl⟩
    obtain ⟨y, hyy⟩ : ∃ y, y = ys[k] := ⟨_, rfl⟩
    obtain ⟨sm, hsm⟩ : ∃ sm, sm = absSum (xs.take k) (ys.take k) := ⟨_, rfl⟩
    rw [← hxx] at hc1 hs hx1; rw [← hyy] at hc2 hs hy1; rw [← hsm] at hs hb ⊢
    have e1 : IntKind.i64.wrap (x - y) = x - y := IntWalk.i64_in _ (by omega)
    have e2 : IntKind.i64.wrap (y - x) = y - x := IntWalk.i64_in _ (by omega)
    have e3 : wrap64 (sm + max (x - y) (y - x)) = sm + max (x - y) (y - x) := by unfold wrap64; omega
    have e4 : (if x - y < y - x then y - x else x - y) = max (x - y) (y - x) := by rw [Int.max_def]; split <;> split <;> omega
    have E3 := Lib.hid e3; have E4 := Lib.hid e4
    clear e3 e4
    have i1 : (k : Int) < (xs.length : Int) := by omega
    have i2 : (k : Int) < (ys.length : Int) := by omega
    have Hs := Lib.hid hs
    clear hs hb hx1 hy1 hxx hyy hsm
    go_wp2
    go_quiet (fail)
    go_wp2
    go_roundw
    case rel => exact ⟨k + 1, by omega, by go_num, by first | (rw [Hs.out, E4.out]; exact congrArg _ E3.out) | (rw [Hs.out]; exact congrArg _ E3.out), _, rfl⟩
    case measure => simp [intOf]; omega
  · obtain rfl : k = xs.length := by omega
    have hb := absSum_bd xs ys HX.out HY.out
    have hs : absSum (xs.take xs.length) (ys.take xs.length) = absSum xs ys := by rw [List.take_length, ← HL.out, List.take_length]
    rw [hs]
    obtain ⟨sm, hsm⟩ : ∃ sm, sm = absSum xs ys := ⟨_, rfl⟩
    rw [← hsm] at hb ⊢
    have Hsm := Lib.hid hsm
    clear hs hsm
    have Hbd : Hid (Bd sm ∧ 0 < (xs.length : Int) ∧ (xs.length : Int) ≤ 9223372036854775807) := by unfold Hid Bd; omega
    have hdn : difN xs ys = sm.tdiv (gcdI sm xs.length) := by rw [difN, Hsm.out]
    have hdd : difD xs ys = (xs.length : Int) / gcdI sm xs.length := by rw [difD, Hsm.out]
    obtain ⟨dn, hdn2⟩ : ∃ dn, dn = sm.tdiv (gcdI sm xs.length) := ⟨_, rfl⟩
    obtain ⟨dd, hdd2⟩ : ∃ dd, dd = (xs.length : Int) / gcdI sm xs.length := ⟨_, rfl⟩
    have HC : Hid (∀ W, Calls Tryz.prog 137 #[.int .i64 sm, .int .i64 (xs.length : Int)] W fun e w' => e = .returned (.agg #[.int .i64 dn, .int .i64 dd]) ∧ Below W.heap.size W w') := fun W => by
     have h := ratio_any sm xs.length W Hbd.out.1 Hbd.out.2
     rw [← hdn2, ← hdd2] at h; exact h
    rw [← hdn2] at hdn; rw [← hdd2] at hdd
    have Hdn := Lib.hid hdn; have Hdd := Lib.hid hdd
    clear hdn hdd hdn2 hdd2 hb
    go_wp2_with fail
    refine (HC.out _).mono ?_
    rintro e w2 ⟨rfl, hb2⟩
    have HR2 : Hid (Row w2 w.heap.size 110 [.int .i64 0, .int .i64 0]) := Row.old (w := W.drewN q) HR.out hb2
    have HB2 : Hid (Below w.heap.size w w2) := (below_drewN HRB.out q).trans (hb2.mono HRB.out.size)
    clear hb2
    go_wp2_with (refine wpList_store_row rfl 110 _ _ rfl w.heap.size #[.int .i64 dn, .int .i64 dd] rfl rfl 110 _ HR2.out ?_ ?_ ?_ ?_; (kernel_rfl); (rfl); (simp [Value.oneCell']))
    refine bodyPost_ret (results_row1 rfl _ _ w.heap.size 110 #[.int .i64 dn, .int .i64 dd] (0, 0) _ rfl (HR2.out.setRow [.int .i64 dn, .int .i64 dd]) Tryz.underlying110 rfl (by kernel_rfl)) rfl ⟨by rw [Hdn.out, Hdd.out], ?_⟩
    exact Below.setRow HB2.out (Nat.le_refl _) _
end Go.Proofs.YtjdniebjhilooaaGreatDoor
