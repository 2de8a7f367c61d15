import Derived.Test.YtoclnlimnjnbkaaGreatDoorM16
import Derived.Test.YtoclnlimnjnbkaaGreatDoorM24
namespace Go.Proofs.YtoclnlimnjnbkaaGreatDoor
set_option linter.all false
open Go.RowKit Go.Fl
theorem results_row1 {P : Program} {fn : Func} {p : Tmp} {ty : TypeId} (h : fn.results = #[.cell p ty]) (tmps : Array Value) (w : World) (g : Nat) (e : TypeId) (cs : Array Value) (fr : Nat × Nat) (d : TypeDesc)
    (hp : tmps.getD p undef = .pointer (some ⟨g, 0, none⟩)) (hg : w.heap[g]? = some (.cells cs e fr))
    (hu : P.underlying ty = some d) (hd : (match d with | .struct _ | .array _ _ => true | _ => false) = true) (hi : (P.info? ty).map (·.size) = some cs.size) :
    (results fn tmps).run P w = .ok (.agg cs) w := by
  have hp' : tmps[p]?.getD undef = .pointer (some ⟨g, 0, none⟩) := by simpa using hp
  simp [results, h, hp', asAddr, run_loadVar_row w g e ty cs fr d hg hu hd hi]
def tapeX : List Nat := [1065353216, 1073741824, 1077936128, 1082130432]
def tapeM : List (Int × ByteArray) := [(1, ⟨#[111, 117, 116, 101, 114]⟩), (3, ⟨#[105, 110, 110, 101, 114]⟩)]
def tapeC (w : World) : List Value := [.int .i64 100, .int .i64 10, .slice (some ⟨w.heap.size + 1, 0, none⟩) 4 4, .slice (some ⟨w.heap.size + 1 + 1, 0, none⟩) 2 2]
set_option maxRecDepth 100000 in
set_option maxHeartbeats 1000000 in
theorem tape_ok (w : World) : Calls Tryz.prog 38 #[] w fun e w' => ∃ g1 g2, e = .returned (.agg #[.int .i64 100, .int .i64 10, .slice (some ⟨g1, 0, none⟩) 4 4, .slice (some ⟨g2, 0, none⟩) 2 2]) ∧ Row w' g1 56 (flts tapeX) ∧ Row w' g2 117 (markC tapeM) ∧ w.heap.size ≤ g1 ∧ w.heap.size ≤ g2 ∧ Below w.heap.size w w' := by
  have r0 : Row (((w.alloc (.cells zero4.toArray 33)).alloc (.cells (flts tapeX).toArray 56)).alloc (.cells (markC tapeM).toArray 117)) w.heap.size 33 zero4 := ((Row.new w 33 zero4).alloc _).alloc _
  have r1 : Row (((w.alloc (.cells zero4.toArray 33)).alloc (.cells (flts tapeX).toArray 56)).alloc (.cells (markC tapeM).toArray 117)) (w.heap.size + 1) 56 (flts tapeX) := by
    have h := (Row.new (w.alloc (.cells zero4.toArray 33)) 56 (flts tapeX)).alloc (.cells (markC tapeM).toArray 117)
    rwa [World.size_alloc] at h
  have r2 : Row (((w.alloc (.cells zero4.toArray 33)).alloc (.cells (flts tapeX).toArray 56)).alloc (.cells (markC tapeM).toArray 117)) (w.heap.size + 1 + 1) 117 (markC tapeM) := by
    have h := Row.new ((w.alloc (.cells zero4.toArray 33)).alloc (.cells (flts tapeX).toArray 56)) 117 (markC tapeM)
    rwa [World.size_alloc, World.size_alloc] at h
  have rb : Below w.heap.size w (((w.alloc (.cells zero4.toArray 33)).alloc (.cells (flts tapeX).toArray 56)).alloc (.cells (markC tapeM).toArray 117)) := (((Below.refl w.heap.size w).alloc (Nat.le_refl _) _).alloc (by simp) _).alloc (by simp; omega) _
  have H0 := Lib.hid r0; have H1 := Lib.hid r1; have H2 := Lib.hid r2; have HB := Lib.hid rb
  clear r0 r1 r2 rb
  go_enter Tryz.func38, Tryz.ntmps38
  go_wp2_with (refine wpList_store_row rfl 33 _ _ rfl w.heap.size (tapeC w).toArray rfl rfl 33 _ H0.out ?_ ?_ ?_ ?_; (kernel_rfl); (rfl); (simp [tapeC, Value.oneCell']))
  refine bodyPost_ret (results_row1 rfl _ _ w.heap.size 33 (tapeC w).toArray (0, 0) _ rfl (H0.out.setRow (tapeC w)) Tryz.underlying33 rfl (by kernel_rfl)) rfl ⟨w.heap.size + 1, w.heap.size + 1 + 1, rfl, ?_, ?_, by omega, by omega, ?_⟩
  · exact Row.farRow H1.out (by omega) _
  · exact Row.farRow H2.out (by omega) _
  · exact Below.setRow HB.out (Nat.le_refl _) _
theorem fields185 : ((Tryz.prog.fieldsOf 90).toList.map fun f => (f.name, f.type, f.offset)) = [("Index", 3, 0), ("Name", 9, 1)] := by kernel_rfl
theorem neqMark (a c : Int) (b d : ByteArray) (w : World) : (binOp .neq 90 (.agg #[.int .i64 a, .string b]) (.agg #[.int .i64 c, .string d])).run Tryz.prog w = .ok (.bool (!(a == c && b.toList == d.toList))) w := by
  have i3 := Tryz.underlying3
  have i9 := Tryz.underlying9
  have e1 : ∀ (a : Int) (b : ByteArray), (part 3 #[.int .i64 a, .string b] 0).run Tryz.prog w = .ok (.int .i64 a) w := fun a b => part_int _ _ _ rfl w
  have e2 : ∀ (a : Int) (b : ByteArray), (part 9 #[.int .i64 a, .string b] 1).run Tryz.prog w = .ok (.string b) w := fun a b => by simp [part, run_underlying i9]
  have e4 := fun (a b : Int) => run_equalIn_int (P := Tryz.prog) w 9998 3 .i64 .i64 a b i3
  have e5 := fun (a b : ByteArray) => run_equalIn_string (P := Tryz.prog) w 9998 9 a b i9
  have n1 : ("Index" : String) ≠ "_" := by decide
  have n2 : ("Name" : String) ≠ "_" := by decide
  rw [run_neq_struct, run_eqStruct w 9999 _ _ _ _ (by kernel_rfl) (by kernel_rfl) fields185]
  simp only [eqTriples, if_pos n1, if_pos n2, Sem.run_bind, e1, e2, e4, e5, Result.andThen_ok, Sem.run_ite, Sem.run_pure]
  cases a == c <;> cases b.toList == d.toList <;> simp [e1, e2, e4, e5]
theorem genH {p : World → Prop} {w0 w : World} (g0 g1 : Nat) (t0 t1 : TypeId) (v0 v1 : List Value) (h0 : Row w g0 t0 v0) (h1 : Row w g1 t1 v1) (hb : Below w0.heap.size w0 w)
    (h : ∀ w3, Row w3 g0 t0 v0 → Row w3 g1 t1 v1 → Below w0.heap.size w0 w3 → p w3) : p w := h w h0 h1 hb
set_option maxRecDepth 100000 in
set_option maxHeartbeats 1000000 in
theorem sameRecording_true (st sp : Int) (A B A' B' : Option Addr) (c d c' d' : Nat) (xs ys : List Nat) (ms : List (Int × ByteArray)) (w : World) (hA : Rd w A (flts xs)) (hB : Rd w B (markC ms)) (hA' : Rd w A' (flts ys)) (hB' : Rd w B' (markC ms)) (hx : xs.length ≤ 1000000) (hm : ms.length ≤ 1000000) (hs : sameF xs ys = true) :
    Calls Tryz.prog 15 #[.agg #[.int .i64 st, .int .i64 sp, .slice A xs.length c, .slice B ms.length d], .agg #[.int .i64 st, .int .i64 sp, .slice A' ys.length c', .slice B' ms.length d']] w fun e w' => e = .returned (.bool true) ∧ Below w.heap.size w w' := by
  have HA : Hid (∀ W, Below w.heap.size w W → Rd W A (flts xs)) := fun W h => hA.below h
  have HB : Hid (∀ W, Below w.heap.size w W → Rd W B (markC ms)) := fun W h => hB.below h
  have HA' : Hid (∀ W, Below w.heap.size w W → Rd W A' (flts ys)) := fun W h => hA'.below h
  have HB' : Hid (∀ W, Below w.heap.size w W → Rd W B' (markC ms)) := fun W h => hB'.below h
  have HS := Lib.hid hs
  clear hA hB hA' hB' hs
  have R0 := (Row.new w 25 [.int .i64 st, .int .i64 sp, .slice A xs.length c, .slice B ms.length d]).alloc (.cells #[.int .i64 st, .int .i64 sp, .slice A' ys.length c', .slice B' ms.length d'] 25)
  have R1 := Row.new (w.alloc (.cells #[.int .i64 st, .int .i64 sp, .slice A xs.length c, .slice B ms.length d] 25)) 25 [.int .i64 st, .int .i64 sp, .slice A' ys.length c', .slice B' ms.length d']
  rw [World.size_alloc] at R1
  have RB := ((Below.refl w.heap.size w).alloc (Nat.le_refl _) (.cells #[.int .i64 st, .int .i64 sp, .slice A xs.length c, .slice B ms.length d] 25)).alloc (by simp) (.cells #[.int .i64 st, .int .i64 sp, .slice A' ys.length c', .slice B' ms.length d'] 25)
  go_enter Tryz.func15, Tryz.ntmps15
  go_upto_region 1 with fail
  refine genH (w0 := w) w.heap.size (w.heap.size + 1) _ _ _ _ R0 R1 RB ?_
  clear R0 R1 RB
  intro W R0 R1 RB
  have q0 := R0.cell 0; have q1 := R0.cell 1; have q2 := R0.cell 2; have q3 := R0.cell 3
  have p0 := R1.cell 0; have p1 := R1.cell 1; have p2 := R1.cell 2; have p3 := R1.cell 3
  simp only [List.getElem?_cons_succ, List.getElem?_cons_zero] at q0 q1 q2 q3 p0 p1 p2 p3
  have HRB := Lib.hid RB; have HR0 := Lib.hid R0; have HR1 := Lib.hid R1
  clear RB R0 R1
  go_wp2_with (go_at_call 29; refine (sameSamples_any _ _ _ _ _ _ xs ys _ (HA.out _ HRB.out) (HA'.out _ HRB.out) rfl rfl (by omega)).mono ?_; rintro e w1 ⟨rfl, q, rfl⟩; rw [HS.out])
  have HB1 := Lib.hid (HB.out _ HRB.out)
  have HB2 := Lib.hid (HB'.out _ HRB.out)
  go_loopw [5] (fun i wr => ∃ k : Nat, k ≤ ms.length ∧ i = .int .i64 k ∧ ∃ q, wr = W.drewN q) (fun i _ => ms.length - (intOf i).toNat)
  case atStart => exact ⟨0, Nat.zero_le _, rfl, q, rfl⟩
  case round =>
    obtain ⟨k, hk, rfl, q, rfl⟩ := hrel
    by_cases hlt : k < ms.length
    · obtain ⟨b, off, rfl, hc1, hc2⟩ := Rd.mark HB1.out hlt
      obtain ⟨b', off', rfl, hc1', hc2'⟩ := Rd.mark HB2.out hlt
      have hneq := neqMark ms[k].1 ms[k].1 ms[k].2 ms[k].2
      have ht : (!(ms[k].1 == ms[k].1 && ms[k].2.toList == ms[k].2.toList)) = false := by simp
      rw [ht] at hneq
      clear ht
      have i1 : (k : Int) < (ms.length : Int) := by omega
      go_wp2
      go_quiet (fail)
      go_wp2
      go_roundw
      case rel => exact ⟨k + 1, by omega, by go_num, _, rfl⟩
      case measure => simp [intOf]; omega
    · go_wp2
      go_ret
      exact ⟨rfl, HRB.out.os, HRB.out.tape, HRB.out.output, HRB.out.size, HRB.out.block⟩
theorem info185 : (Tryz.prog.info? 90).map (fun i => (i.zero, i.size, i.bytes)) = some (some (.agg #[.int .i64 0, .string ⟨#[]⟩]), 2, 24) := by kernel_rfl
theorem owned_rd {w : World} {B : Nat} {e : TypeId} {s n m c : Nat} {A : Option Addr} {vs : List Value} (h : w.ownsRow B e s (.slice A n c) m vs) : Rd w A vs := by
  obtain ⟨A', c', h1, h2⟩ := owned_slice h
  cases h1; exact h2
theorem owns_other {w w' : World} {B : Nat} {e : TypeId} {s n : Nat} {v : Value} {xs : List Value} (g : Nat) (h : w.ownsRow B e s v n xs) (hk : ∀ j, j < w.heap.size → j ≠ g → w'.heap[j]? = w.heap[j]?) (hv : v.ownBlock ≠ some g) : w'.ownsRow B e s v n xs := by
  refine ⟨h.1, ?_⟩
  rcases h.2 with h2 | ⟨g', cap, cur, h1, h2, h3, h4⟩
  · exact .inl h2
  · refine .inr ⟨g', cap, cur, h1, h2, (hk g' (Array.getElem?_eq_some_iff.1 h3).1 (fun e => hv ?_)).trans h3, h4⟩
    rw [h1, ← e]; rfl
set_option maxRecDepth 100000 in
set_option maxHeartbeats 4000000 in
theorem told_ok (st sp : Int) (A B : Option Addr) (c d : Nat) (xs : List Nat) (ms : List (Int × ByteArray)) (w : World) (hA : Rd w A (flts xs)) (hB : Rd w B (markC ms)) (hx : xs.length ≤ 1000000) (hm : ms.length ≤ 1000000) (hc : A = none → c = 0) :
    Calls Tryz.prog 16 #[.agg #[.int .i64 st, .int .i64 sp, .slice A xs.length c, .slice B ms.length d]] w fun e w' => ∃ A' c' B' d', e = .returned (.agg #[.int .i64 st, .int .i64 sp, .slice A' xs.length c', .slice B' ms.length d']) ∧ Rd w' A' (flts xs) ∧ Rd w' B' (markC ms) ∧ Below w.heap.size w w' := by
  have HA : Hid (∀ W, Below w.heap.size w W → Rd W A (flts xs)) := fun W h => hA.below h
  have HB : Hid (∀ W, Below w.heap.size w W → Rd W B (markC ms)) := fun W h => hB.below h
  clear hA hB
  have R0 := (Row.new w 33 [.int .i64 st, .int .i64 sp, .slice A xs.length c, .slice B ms.length d]).alloc (.cells zero4.toArray 25)
  have R1 := Row.new (w.alloc (.cells #[.int .i64 st, .int .i64 sp, .slice A xs.length c, .slice B ms.length d] 33)) 25 zero4
  rw [World.size_alloc] at R1
  have RB := ((Below.refl w.heap.size w).alloc (Nat.le_refl _) (.cells #[.int .i64 st, .int .i64 sp, .slice A xs.length c, .slice B ms.length d] 33)).alloc (by simp) (.cells zero4.toArray 25)
  go_enter Tryz.func16, Tryz.ntmps16
  go_upto_region 1 with fail
  refine genH (w0 := w) w.heap.size (w.heap.size + 1) _ _ _ _ R0 R1 RB ?_
  clear R0 R1 RB
  intro W R0 R1 RB
  have q0 := R0.cell 0; have q1 := R0.cell 1; have q2 := R0.cell 2
  simp only [List.getElem?_cons_succ, List.getElem?_cons_zero] at q0 q1 q2
  have hsz := R1.lt
  have hsz0 := R0.lt
  have HRB := Lib.hid RB; have HR0 := Lib.hid R0; have HR1 := Lib.hid R1
  have HF : Hid (∀ W', Below W.heap.size W W' → Calls Tryz.prog 27 #[.slice A xs.length c] W' fun e w' => ∃ A' c', e = .returned (.slice A' xs.length c') ∧ w'.ownsRow W'.heap.size 56 1 (.slice A' xs.length c') xs.length (flts xs) ∧ Below W'.heap.size W' w' ∧ w'.cell? ⟨w.heap.size, 0, none⟩ = some (.int .i64 st) ∧ w'.cell? ⟨w.heap.size, 1, none⟩ = some (.int .i64 sp)) := fun W' h =>
    (floats_any A xs.length c xs W' (HA.out _ (HRB.out.trans (h.mono HRB.out.size))) rfl hc (by omega)).mono fun e w' ⟨v, h1, h2, h3⟩ => by
      obtain ⟨A', c', rfl, -⟩ := owned_slice h2
      have hb := h.trans (h3.mono h.size)
      exact ⟨A', c', h1, h2, h3, (HR0.out.old hb).cell 0, (HR0.out.old hb).cell 1⟩
  clear RB R0 R1
  go_cut [3] (fun s3 wx => ∃ (g : Nat) (A' : Option Addr) (c' : Nat), s3 = .pointer (some ⟨g, 0, none⟩) ∧ Row wx g 25 [.int .i64 st, .int .i64 sp, .slice A' xs.length c', .slice none 0 0] ∧ (Value.slice A' xs.length c').ownBlock ≠ some g ∧ wx.ownsRow W.heap.size 56 1 (.slice A' xs.length c') xs.length (flts xs) ∧ W.heap.size ≤ g ∧ Below W.heap.size W wx)
  case first =>
    refine wp_region_held_drew (S := fun w' => w'.cell? ⟨w.heap.size, 0, none⟩ = some (.int .i64 st) ∧ w'.cell? ⟨w.heap.size, 1, none⟩ = some (.int .i64 sp) ∧ w'.cell? ⟨w.heap.size, 2, none⟩ = some (.slice A xs.length c) ∧ Below W.heap.size W w') (by kernel_rfl) ?_ (fun hHeld => ?_)
    · exact ⟨HR0.out.cell 0, HR0.out.cell 1, HR0.out.cell 2, (Below.refl _ _).drew⟩
    refine wpAnyH_take (i := 0) (v := ?_) rfl (by kernel_rfl) (by kernel_rfl) (by kernel_rfl) (fun _ _ _ h => h) (Or.inl ⟨by kernel_rfl, ?_⟩) hHeld ?_
    rotate_left
    · intro w1 hSw; (try dsimp only at hSw); go_simp <;> with_reducible rfl
    try simp only [Act.put, List.setIfInBounds_toArray, List.set_cons_zero, List.set_cons_succ]
    refine wpAnyH_take (i := 1) (v := ?_) rfl (by kernel_rfl) (by kernel_rfl) (by kernel_rfl) (fun _ _ _ h => h) (Or.inl ⟨by kernel_rfl, ?_⟩) hHeld ?_
    rotate_left
    · intro w1 hSw; (try dsimp only at hSw); go_simp <;> with_reducible rfl
    try simp only [Act.put, List.setIfInBounds_toArray, List.set_cons_zero, List.set_cons_succ]
    refine wpAnyH_take (i := 2) (v := ?_) rfl (by kernel_rfl) (by kernel_rfl) (by kernel_rfl) (fun _ _ _ h => h) (Or.inl ⟨by kernel_rfl, ?_⟩) hHeld ?_
    rotate_left
    · intro w1 hSw; (try dsimp only at hSw); go_simp <;> with_reducible rfl
    try simp only [Act.put, List.setIfInBounds_toArray, List.set_cons_zero, List.set_cons_succ]
    refine wpAnyH_take (i := 3) (v := ?_) rfl (by kernel_rfl) (by kernel_rfl) (by kernel_rfl) (fun _ _ _ h => h) (Or.inl ⟨by kernel_rfl, ?_⟩) hHeld ?_
    rotate_left
    · intro w1 hSw; (try dsimp only at hSw); go_simp <;> with_reducible rfl
    try simp only [Act.put, List.setIfInBounds_toArray, List.set_cons_zero, List.set_cons_succ]
    refine wpAnyH_take (i := 4) (v := ?_) rfl (by kernel_rfl) (by kernel_rfl) (by kernel_rfl) (fun _ _ _ h => h) (Or.inl ⟨by kernel_rfl, ?_⟩) hHeld ?_
    rotate_left
    · intro w1 hSw; (try dsimp only at hSw); go_simp <;> with_reducible rfl
    try simp only [Act.put, List.setIfInBounds_toArray, List.set_cons_zero, List.set_cons_succ]
    refine wpAnyH_take (i := 5) (v := ?_) rfl (by kernel_rfl) (by kernel_rfl) (by kernel_rfl) (fun _ _ _ h => h) (Or.inl ⟨by kernel_rfl, ?_⟩) hHeld ?_
    rotate_left
    · intro w1 hSw; (try dsimp only at hSw); go_simp <;> with_reducible rfl
    try simp only [Act.put, List.setIfInBounds_toArray, List.set_cons_zero, List.set_cons_succ]
    refine wpAnyH_ready (rs := [6, 8]) (by kernel_rfl) (by simp) ?_
    refine AllReadyH.cons rfl (fun K hK => ?_) (AllReadyH.cons rfl (fun K hK => ?_) (AllReadyH.nil))
    ·
      go_simp
      go_at_call 27
      refine (HF.out _ hHeld.2.2.2).mono ?_
      rintro e w2 ⟨A2, c2, rfl, ho2, hb2, -, -⟩
      try go_simp
      refine hK.out _ _ ?_ (fun hHeld => ?_)
      · exact ⟨keepC hHeld.1 hb2, keepC hHeld.2.1 hb2, keepC hHeld.2.2.1 hb2, hHeld.2.2.2.trans ((hb2).mono hHeld.2.2.2.size)⟩
      clear hK K
      try simp only [Act.put, List.setIfInBounds_toArray, List.set_cons_zero, List.set_cons_succ]
      refine wpAnyH_take (i := 7) (oi := { dst := some 13, op := Op.build 25 #[(0, Operand.tmp 7), (1, Operand.tmp 9), (2, Operand.tmp 12)], type := 25, pos := _, after := #[{ on := 1, ground := Ground.data }, { on := 3, ground := Ground.data }, { on := 6, ground := Ground.data }], guard := none }) (v := ?_) rfl (by kernel_rfl) (by kernel_rfl) (by kernel_rfl) (fun _ _ _ h => h) (Or.inl ⟨by kernel_rfl, ?_⟩) hHeld ?_
      rotate_left
      · intro w1 hSw; (try dsimp only at hSw); go_simp <;> with_reducible rfl
      try simp only [Act.put, List.setIfInBounds_toArray, List.set_cons_zero, List.set_cons_succ]
      refine wpAnyH_ready (rs := [8]) (by kernel_rfl) (by simp) ?_
      refine AllReadyH.cons rfl (fun K hK => ?_) (AllReadyH.nil)
      go_simp
      refine hK.out _ _ ?_ (fun hHeld => ?_)
      · exact ⟨keepC hHeld.1 ((Below.refl _ _).alloc (Nat.le_refl _) _), keepC hHeld.2.1 ((Below.refl _ _).alloc (Nat.le_refl _) _), keepC hHeld.2.2.1 ((Below.refl _ _).alloc (Nat.le_refl _) _), hHeld.2.2.2.trans ((((Below.refl _ _).alloc (Nat.le_refl _) _)).mono hHeld.2.2.2.size)⟩
      clear hK K
      try simp only [Act.put, List.setIfInBounds_toArray, List.set_cons_zero, List.set_cons_succ]
      refine wpAnyH_ready (rs := [9]) (by kernel_rfl) (by simp) ?_
      refine AllReadyH.cons rfl (fun K hK => ?_) (AllReadyH.nil)
      have zz := hHeld.2.2.2.size
      rw [World.size_alloc] at zz
      have zw := (((Below.refl _ W).drew.trans hb2)).size
      have hz := Row.new w2 25 zero4
      refine step_store_row rfl 25 _ _ rfl w2.heap.size [.int .i64 st, .int .i64 sp, .slice A2 xs.length c2, .slice none 0 0] rfl rfl 25 zero4 hz (by kernel_rfl) rfl (by simp [Value.oneCell']) ?_
      refine hK.out _ _ ?_ (fun hHeld => ?_)
      · exact ⟨(cell_far _ (by omega)).trans hHeld.1, (cell_far _ (by omega)).trans hHeld.2.1, (cell_far _ (by omega)).trans hHeld.2.2.1, Below.setRow hHeld.2.2.2 (by omega) _⟩
      clear hK K
      try simp only [Act.put, List.setIfInBounds_toArray, List.set_cons_zero, List.set_cons_succ]
      refine wpAnyH_done (by kernel_rfl) ?_ _
      go_wp2_with fail
      go_meet
      have zb : Below W.heap.size W w2 := (Below.refl _ W).drew.trans hb2
      refine ⟨w2.heap.size, A2, c2, rfl, hz.setRow _, fun e => ?_, owns_other w2.heap.size ho2 (fun j hj hne => (setRow_other _ _ _ _ hne).trans (((Below.refl w2.heap.size w2).alloc (Nat.le_refl _) _).block j hj)) (fun e => ?_), zb.size, Below.setRow (zb.alloc zb.size _) zb.size _⟩
      · have := (ho2.lt _ e).2; omega
      · have := (ho2.lt _ e).2; omega
    ·
      go_simp
      refine hK.out _ _ ?_ (fun hHeld => ?_)
      · exact ⟨keepC hHeld.1 ((Below.refl _ _).alloc (Nat.le_refl _) _), keepC hHeld.2.1 ((Below.refl _ _).alloc (Nat.le_refl _) _), keepC hHeld.2.2.1 ((Below.refl _ _).alloc (Nat.le_refl _) _), hHeld.2.2.2.trans ((((Below.refl _ _).alloc (Nat.le_refl _) _)).mono hHeld.2.2.2.size)⟩
      clear hK K
      try simp only [Act.put, List.setIfInBounds_toArray, List.set_cons_zero, List.set_cons_succ]
      refine wpAnyH_ready (rs := [6]) (by kernel_rfl) (by simp) ?_
      refine AllReadyH.cons rfl (fun K hK => ?_) (AllReadyH.nil)
      go_simp
      go_at_call 27
      refine (HF.out _ hHeld.2.2.2).mono ?_
      rintro e w2 ⟨A2, c2, rfl, ho2, hb2, -, -⟩
      try go_simp
      refine hK.out _ _ ?_ (fun hHeld => ?_)
      · exact ⟨keepC hHeld.1 hb2, keepC hHeld.2.1 hb2, keepC hHeld.2.2.1 hb2, hHeld.2.2.2.trans ((hb2).mono hHeld.2.2.2.size)⟩
      clear hK K
      try simp only [Act.put, List.setIfInBounds_toArray, List.set_cons_zero, List.set_cons_succ]
      refine wpAnyH_take (i := 7) (oi := { dst := some 13, op := Op.build 25 #[(0, Operand.tmp 7), (1, Operand.tmp 9), (2, Operand.tmp 12)], type := 25, pos := _, after := #[{ on := 1, ground := Ground.data }, { on := 3, ground := Ground.data }, { on := 6, ground := Ground.data }], guard := none }) (v := ?_) rfl (by kernel_rfl) (by kernel_rfl) (by kernel_rfl) (fun _ _ _ h => h) (Or.inl ⟨by kernel_rfl, ?_⟩) hHeld ?_
      rotate_left
      · intro w1 hSw; (try dsimp only at hSw); go_simp <;> with_reducible rfl
      try simp only [Act.put, List.setIfInBounds_toArray, List.set_cons_zero, List.set_cons_succ]
      refine wpAnyH_ready (rs := [9]) (by kernel_rfl) (by simp) ?_
      refine AllReadyH.cons rfl (fun K hK => ?_) (AllReadyH.nil)
      have zz := hHeld.2.2.2.size
      have hz : Row w2 W.heap.size 25 zero4 := Row.old (w := (W.drew.alloc (.cells zero4.toArray 25))) (Row.new W.drew 25 zero4) hb2
      refine step_store_row rfl 25 _ _ rfl W.heap.size [.int .i64 st, .int .i64 sp, .slice A2 xs.length c2, .slice none 0 0] rfl rfl 25 zero4 hz (by kernel_rfl) rfl (by simp [Value.oneCell']) ?_
      refine hK.out _ _ ?_ (fun hHeld => ?_)
      · exact ⟨(cell_far _ (by omega)).trans hHeld.1, (cell_far _ (by omega)).trans hHeld.2.1, (cell_far _ (by omega)).trans hHeld.2.2.1, Below.setRow hHeld.2.2.2 (by omega) _⟩
      clear hK K
      try simp only [Act.put, List.setIfInBounds_toArray, List.set_cons_zero, List.set_cons_succ]
      refine wpAnyH_done (by kernel_rfl) ?_ _
      go_wp2_with fail
      go_meet
      have zb : Below W.heap.size W w2 := ((Below.refl _ W).drew.alloc (Nat.le_refl _) _).trans (hb2.mono (by simp))
      have zs : W.heap.size < (W.drew.alloc (.cells zero4.toArray 25)).heap.size := by rw [World.size_alloc]; exact Nat.lt_succ_self _
      refine ⟨W.heap.size, A2, c2, rfl, hz.setRow _, fun e => ?_, owns_far ho2 _ _ zs (Nat.le_of_lt zs), Nat.le_refl _, Below.setRow zb (Nat.le_refl _) _⟩
      have h1 := (ho2.lt _ e).1
      exact absurd (Nat.lt_of_lt_of_le zs h1) (Nat.lt_irrefl _)
  case rest =>
    obtain ⟨g, A2, c2, rfl, hrow, hne, ho, hg, hbw⟩ := hcut
    have HB1 := Lib.hid (HB.out _ (HRB.out.trans (hbw.mono HRB.out.size)))
    have hr3 := (HR0.out.old hbw).cell 3
    simp only [List.getElem?_cons_succ, List.getElem?_cons_zero] at hr3
    have HBx := Lib.hid (HRB.out.trans (hbw.mono HRB.out.size))
    have HRow := Lib.hid hrow; have HO := Lib.hid ho; have HNe := Lib.hid hne
    have hgs : g < wc.heap.size := hrow.lt
    have HT1 := Lib.hid (HR1.out.old hbw)
    have HGW := Lib.hid hsz
    have HGS : Hid (w.heap.size + 1 < g ∧ g < wc.heap.size) := ⟨by omega, hgs⟩
    obtain ⟨im, him0, him1, him2, him3⟩ := info_parts info185
    clear hrow ho hne hbw hg hgs hsz hsz0 q0 q1 q2 HF HR0 HR1 HRB
    go_wp2
    go_loopg [17] ms.length (fun gg i wr => ∃ (k : Nat) (u : Value), k ≤ ms.length ∧ i = .int .i64 k ∧ gg = ms.length - k ∧ Hid (wr.ownsRow wc.heap.size 90 2 u k (markC (ms.take k))) ∧ Hid (Row wr g 25 [.int .i64 st, .int .i64 sp, .slice A2 xs.length c2, u]) ∧ Hid (∀ j, j < wc.heap.size → j ≠ g → wr.heap[j]? = wc.heap[j]?) ∧ Hid (Below w.heap.size w wr) ∧ Hid (wc.heap.size ≤ wr.heap.size))
    case atStart => exact ⟨0, .slice none 0 0, Nat.zero_le _, rfl, rfl, World.ownsRow_nil _ _ _ _, HRow, fun j _ _ => rfl, HBx, Nat.le_refl _⟩
    case round =>
      obtain ⟨k, u, hk, rfl, hgk, Ho, KR, KK, KB, KS⟩ := hrel
      subst hgk
      have hRdB : Rd wr B (markC ms) := HB.out _ KB.out
      by_cases hlt : k < ms.length
      · obtain ⟨b, off, hBb, hc1, hc2⟩ := Rd.mark hRdB hlt
        subst hBb
        obtain ⟨ix, hix⟩ : ∃ ix, ix = ms[k].1 := ⟨_, rfl⟩
        obtain ⟨nm, hnm⟩ : ∃ nm, nm = ms[k].2 := ⟨_, rfl⟩
        rw [← hix] at hc1; rw [← hnm] at hc2
        have HT : Hid (markC (ms.take (k + 1)) = markC (ms.take k) ++ [.int .i64 ix, .string nm]) := by
          unfold Hid; rw [List.take_succ_eq_append_getElem hlt, markC_app, hix, hnm]; simp [markC]
        clear hix hnm
        have N0 := Lib.hid (KR.out.alloc (.cells #[.int .i64 ix, .string nm] 117))
        have No := Lib.hid (Ho.out.alloc (.cells #[.int .i64 ix, .string nm] 117))
        have n3 := N0.out.cell 3
        simp only [List.getElem?_cons_succ, List.getElem?_cons_zero] at n3
        have hs1 := KS.out
        have hs2 := HGS.out.2
        have hs3 : g < wr.heap.size := by omega
        go_wp2_with (at_builtin; refine wpList_append_own_at _ rfl _ _ 23 rfl wc.heap.size 90 im (.agg #[.int .i64 0, .string ⟨#[]⟩]) 2 24 Tryz.underlying23 him0 him1 him2 him3 rfl (by decide) _ _ _ rfl (No.out.alloc _) ⟨wr.heap.size + 1, 0, none⟩ 1 1 [.int .i64 ix, .string nm] rfl rfl (news2 _ _ _ _ _ ?c1) ?c2 ?c3 ?c4 ?c5 ?_)
        case c1 => simp
        case c2 => simp [Value.oneCell']
        case c3 => unfold maxLen; omega
        case c4 => omega
        case c5 => simp; omega
        intro v' w3 ho hg3 _ hat
        have hst : Step (wr.alloc (.cells #[.int .i64 ix, .string nm] 117)) w3 u v' := Step.of_alloc hg3 (by rw [World.size_alloc, World.size_alloc]; exact hat)
        have hb3 := hst.below No.out (by simp; omega)
        have Hb3 : Hid (Below wc.heap.size wr w3) := (((Below.refl wc.heap.size wr).alloc hs1 _)).trans hb3
        have hr3 : Row w3 g 25 [.int .i64 st, .int .i64 sp, .slice A2 xs.length c2, u] := KR.out.below Hb3.out hs2
        have HR3 := Lib.hid hr3
        have m3 := hr3.cell 3
        have mf := hr3.free 3
        simp only [List.getElem?_cons_succ, List.getElem?_cons_zero] at m3
        have Ho3 : Hid (w3.ownsRow wc.heap.size 90 2 v' (k + 1) (markC (ms.take (k + 1)))) := by
          unfold Hid; rw [HT.out]; exact ho
        clear ho hg3 hat hst hb3 hr3 n3 hc1 hc2
        obtain ⟨A3, c3, rfl, -⟩ := owned_slice Ho3.out
        obtain ⟨v', hv'⟩ : ∃ v', v' = Value.slice A3 (k + 1) c3 := ⟨_, rfl⟩
        go_wp2
        go_roundg (ms.length - (k + 1))
        case measure => omega
        case rel =>
          have hz := Hb3.out.size
          rw [← hv'] at Ho3 ⊢
          refine ⟨k + 1, v', by omega, by go_num, rfl, ?_, HR3.out.set 3 v', ?_, ?_, ?_⟩
          · exact owns_other g Ho3.out (fun j _ hne => heap_setCell_other w3 ⟨g, 3, none⟩ j v' hne) (fun e => by have := (Ho3.out.lt _ e).1; omega)
          · exact fun j hj hne => ((heap_setCell_other w3 ⟨g, 3, none⟩ j v' hne).trans (Hb3.out.block j hj)).trans (KK.out j hj hne)
          · have h0 := HGS.out.1
            have h1 : Below w.heap.size w w3 := KB.out.trans (Hb3.out.mono (by omega))
            exact h1.setCell (p := ⟨g, 3, none⟩) (by show w.heap.size ≤ g; omega) v'
          · have h1 : Below wc.heap.size wr w3 := Hb3.out
            have h2 := ((Below.refl 0 w3).setCell (p := ⟨g, 3, none⟩) (Nat.zero_le _) v').size
            show wc.heap.size ≤ _
            omega
      · obtain rfl : k = ms.length := by omega
        obtain ⟨B2, d2, rfl, -⟩ := owned_slice Ho.out
        have hT1 : Row wr (w.heap.size + 1) 25 zero4 := (KK.out _ HT1.out.lt (by have := HGS.out.1; omega)).trans HT1.out
        have HT2 := Lib.hid hT1
        have h1 := HGW.out; have h2 := HGS.out
        clear hT1
        go_wp2_with (first
          | (refine wpList_load_row rfl 25 _ rfl g rfl 25 #[.int .i64 st, .int .i64 sp, .slice A2 xs.length c2, .slice B2 ms.length d2] (0, 0) _ KR.out Tryz.underlying25 rfl ?_ ?_; (kernel_rfl))
          | (refine wpList_store_row rfl 25 _ _ rfl (w.heap.size + 1) #[.int .i64 st, .int .i64 sp, .slice A2 xs.length c2, .slice B2 ms.length d2] rfl rfl 25 _ HT2.out ?_ ?_ ?_ ?_; (kernel_rfl); (rfl); (simp [Value.oneCell'])))
        have hrow : Row (wr.setRow (w.heap.size + 1) [Value.int .i64 st, .int .i64 sp, .slice A2 xs.length c2, .slice B2 ms.length d2].toArray) (w.heap.size + 1) 25 [.int .i64 st, .int .i64 sp, .slice A2 xs.length c2, .slice B2 ms.length d2] := HT2.out.setRow _
        refine bodyPost_ret (results_row1 rfl _ _ (w.heap.size + 1) 25 _ (0, 0) _ rfl hrow Tryz.underlying25 rfl (by kernel_rfl)) rfl ⟨A2, c2, B2, d2, rfl, ?_, ?_, ?_⟩
        · exact owned_rd (owns_far (owns_other g HO.out (fun j hj hne => KK.out j hj hne) HNe.out) _ _ h1 (Nat.zero_le _) (B' := 0))
        · have := Ho.out; rw [List.take_of_length_le (Nat.le_refl _)] at this
          exact owned_rd (owns_far this _ _ (by omega) (Nat.zero_le _) (B' := 0))
        · exact Below.setRow KB.out (by omega) _
def bools (bs : List Bool) : List Value := bs.map Value.bool
theorem Rd.bool {w : World} {A : Option Addr} {xs : List Bool} (h : Rd w A (bools xs)) {j : Nat} (hj : j < xs.length) : ∃ b off, A = some ⟨b, off, none⟩ ∧ w.cell? ⟨b, off + j, none⟩ = some (.bool xs[j]) := by
  obtain ⟨b, off, h1, h2⟩ := Rd.at h (j := j) (by simpa [bools] using hj)
  exact ⟨b, off, h1, by rw [h2]; simp [bools]⟩
def gapsGo : List Bool → Nat → List (Int × Int) → List (Int × Int)
  | [], _, sp => sp
  | b :: bs, i, sp => gapsGo bs (i + 1) (if b then sp else widL sp i)
def gapsL (bs : List Bool) : List (Int × Int) := gapsGo bs 0 []
theorem gapsGo_drop {bs : List Bool} {k : Nat} (hk : k < bs.length) (sp : List (Int × Int)) : gapsGo (bs.drop k) k sp = gapsGo (bs.drop (k + 1)) (k + 1) (if bs[k] then sp else widL sp k) := by
  rw [List.drop_eq_getElem_cons hk, gapsGo]
set_option maxHeartbeats 400000 in
theorem not_any (b : Bool) (w : World) : Calls Tryz.prog 82 #[.bool b] w fun e w' => e = .returned (.bool (!b)) ∧ w = w' := by
  go_enter Tryz.func82, Tryz.ntmps82
  go_wp2
  go_ret
  exact ⟨rfl, rfl⟩
set_option maxRecDepth 100000 in
set_option maxHeartbeats 1000000 in
theorem spansWhere_any (A : Option Addr) (n c : Nat) (bs : List Bool) (w : World) (hA : Rd w A (bools bs)) (hn : n = bs.length) (hm : bs.length ≤ 4096) :
    Calls Tryz.prog 81 #[.slice A n c, .func (.func 82) #[] #[]] w fun e w' => ∃ v, e = .returned v ∧ w'.ownsRow w.heap.size 70 2 v (gapsL bs).length (spanC (gapsL bs)) ∧ Below w.heap.size w w' := by
  subst hn
  have HA := Lib.hid hA
  clear hA
  go_enter Tryz.func81, Tryz.ntmps81
  go_wp2
  go_loopw [5, 10] (fun v i wr => ∃ (k : Nat) (sp : List (Int × Int)), k ≤ bs.length ∧ i = .int .i64 k ∧ Hid (sp.length ≤ k) ∧ Hid (gapsGo (bs.drop k) k sp = gapsL bs) ∧ Hid (wr.ownsRow w.heap.size 70 2 v sp.length (spanC sp)) ∧ Hid (Below w.heap.size w wr)) (fun _ i _ => bs.length - (intOf i).toNat)
  case atStart => exact ⟨0, [], Nat.zero_le _, rfl, Nat.le_refl _, rfl, World.ownsRow_nil _ _ _ _, Below.refl _ _⟩
  case round =>
    obtain ⟨k, sp, hk, rfl, Hl, Hg, Ho, Hb⟩ := hrel
    by_cases hlt : k < bs.length
    · obtain ⟨b, off, hAb, hc⟩ := Rd.bool (HA.out.below Hb.out) hlt
      subst hAb
      have hgd := gapsGo_drop hlt sp
      rw [Hg.out] at hgd
      obtain ⟨x, hx⟩ : ∃ x, x = bs[k] := ⟨_, rfl⟩
      rw [← hx] at hc hgd
      have Hgd := Lib.hid hgd
      clear hgd hx
      cases x
      · have hl6 : Hid (sp.length ≤ 1000000) := by unfold Hid; have := Hl.out; omega
        have hi9 : Hid (0 ≤ (k : Int) ∧ (k : Int) ≤ 1000000000) := by unfold Hid; omega
        go_wp2_with (first
          | (go_at_call 82; refine (not_any _ _).mono ?_; rintro e w1 ⟨rfl, rfl⟩)
          | (go_at_call 75; refine (widened_any w.heap.size _ sp (k : Int) _ Ho.out Hb.out.size hl6.out hi9.out).mono ?_; rintro e w2 ⟨v', rfl, ho2, hst2⟩; have Hb2 := Lib.hid (Hb.out.trans (hst2.below Ho.out Hb.out.size)); have Ho2 := Lib.hid ho2; clear ho2 hst2))
        go_roundw
        case rel => exact ⟨k + 1, widL sp k, by omega, by go_num, by have := widL_le sp k; have := Hl.out; show _ ≤ _; omega, by show _ = _; rw [Hgd.out]; rfl, Ho2, Hb2⟩
        case measure => simp [intOf]; omega
      · go_wp2_with (go_at_call 82; refine (not_any _ _).mono ?_; rintro e w1 ⟨rfl, rfl⟩)
        go_roundw
        case rel => exact ⟨k + 1, sp, by omega, by go_num, by have := Hl.out; show _ ≤ _; omega, by show _ = _; rw [Hgd.out]; rfl, Ho, Hb⟩
        case measure => simp [intOf]; omega
    · obtain rfl : k = bs.length := by omega
      have hg : sp = gapsL bs := by have h := Hg.out; rwa [List.drop_of_length_le (Nat.le_refl _)] at h
      have Hgl := Lib.hid hg
      clear hg
      go_wp2
      go_ret
      exact ⟨_, rfl, by rw [← Hgl.out]; exact Ho.out, Hb.out⟩
def absSum : List Int → List Int → Int
  | x :: xs, y :: ys => max (x - y) (y - x) + absSum xs ys
  | _, _ => 0
theorem absSum_take (xs ys : List Int) (k : Nat) (hx : k < xs.length) (hy : k < ys.length) : absSum (xs.take (k + 1)) (ys.take (k + 1)) = absSum (xs.take k) (ys.take k) + max (xs[k] - ys[k]) (ys[k] - xs[k]) := by
  induction xs generalizing ys k with
  | nil => simp at hx
  | cons x xs ih => cases ys with
    | nil => simp at hy
    | cons y ys =>
      cases k with
      | zero => simp [absSum]
      | succ k =>
        have := ih ys k (by simpa using hx) (by simpa using hy)
        simp only [List.take_succ_cons, absSum, List.getElem_cons_succ] at this ⊢
        omega
theorem absSum_bd (xs ys : List Int) (hx : ∀ x ∈ xs, x.natAbs ≤ 65536) (hy : ∀ y ∈ ys, y.natAbs ≤ 65536) : 0 ≤ absSum xs ys ∧ absSum xs ys ≤ 131072 * xs.length := by
  induction xs generalizing ys with
  | nil => cases ys <;> simp [absSum]
  | cons x xs ih => cases ys with
    | nil => simp [absSum]; omega
    | cons y ys =>
      have h1 := ih ys (fun x h => hx x (List.mem_cons_of_mem _ h)) (fun y h => hy y (List.mem_cons_of_mem _ h))
      have h2 := hx x (List.mem_cons_self ..)
      have h3 := hy y (List.mem_cons_self ..)
      simp only [absSum, List.length_cons]
      omega
def difN (xs ys : List Int) : Int := (absSum xs ys).tdiv (gcdI (absSum xs ys) xs.length)
def difD (xs ys : List Int) : Int := (xs.length : Int) / gcdI (absSum xs ys) xs.length
set_option maxRecDepth 100000 in
set_option maxHeartbeats 300000 in
theorem difference_any (A B : Option Addr) (c d : Nat) (xs ys : List Int) (n : Nat) (w : World) (hA : Rd w A (ints xs)) (hB : Rd w B (ints ys)) (hn : n = xs.length) (hl : ys.length = xs.length) (h0 : 0 < xs.length) (h1 : xs.length ≤ 4096) (hx : ∀ x ∈ xs, x.natAbs ≤ 65536) (hy : ∀ y ∈ ys, y.natAbs ≤ 65536) :
    Calls Tryz.prog 100 #[.slice A n c, .slice B n d] w fun e w' => e = .returned (.agg #[.int .i64 (difN xs ys), .int .i64 (difD xs ys)]) ∧ Below w.heap.size w w' := by
  subst hn
  have HL := Lib.hid hl; have HX := Lib.hid hx; have HY := Lib.hid hy
  have HA : Hid (∀ W, Below w.heap.size w W → Rd W A (ints xs)) := fun W h => hA.below h
  have HB : Hid (∀ W, Below w.heap.size w W → Rd W B (ints ys)) := fun W h => hB.below h
  clear hl hx hy hA hB
  go_enter Tryz.func100, Tryz.ntmps100
  go_upto_region 1 with fail
  refine genF w.heap.size 110 [.int .i64 0, .int .i64 0] (Row.new w 110 [.int .i64 0, .int .i64 0]) ((Below.refl w.heap.size w).alloc (Nat.le_refl _) _) ?_
  intro W R0 RB
  have HR := Lib.hid R0; have HRB := Lib.hid RB
  clear R0 RB
  go_wp2
  go_loopw [5, 9] (fun s i wr => ∃ k : Nat, k ≤ xs.length ∧ i = .int .i64 k ∧ s = .int .i64 (absSum (xs.take k) (ys.take k)) ∧ ∃ q, wr = W.drewN q) (fun _ i _ => xs.length - (intOf i).toNat)
  case atStart => exact ⟨0, Nat.zero_le _, rfl, by simp [absSum], 0, rfl⟩
  case round =>
    obtain ⟨k, hk, rfl, rfl, q, rfl⟩ := hrel
    by_cases hlt : k < xs.length
    · have hlt2 : k < ys.length := by rw [HL.out]; exact hlt
      obtain ⟨b, off, hAb, hc1⟩ := Rd.int (HA.out _ HRB.out) hlt
      obtain ⟨b', off', hBb, hc2⟩ := Rd.int (HB.out _ HRB.out) hlt2
      subst hAb; subst hBb
      have hs := absSum_take xs ys k hlt hlt2
      have hb := absSum_bd (xs.take k) (ys.take k) (fun x h => HX.out x (List.mem_of_mem_take h)) (fun x h => HY.out x (List.mem_of_mem_take h))
      rw [List.length_take] at hb
      have hx1 := HX.out _ (List.getElem_mem hlt)
      have hy1 := HY.out _ (List.getElem_mem hlt2)
      obtain ⟨x, hxx⟩ : ∃ x, x = xs[k] := ⟨_, rfl⟩
      obtain ⟨y, hyy⟩ : ∃ y, y = ys[k] := ⟨_, rfl⟩
      obtain ⟨sm, hsm⟩ : ∃ sm, sm = absSum (xs.take k) (ys.take k) := ⟨_, rfl⟩
      rw [← hxx] at hc1 hs hx1; rw [← hyy] at hc2 hs hy1; rw [← hsm] at hs hb ⊢
      have e1 : IntKind.i64.wrap (x - y) = x - y := IntWalk.i64_in _ (by omega)
      have e2 : IntKind.i64.wrap (y - x) = y - x := IntWalk.i64_in _ (by omega)
      have e3 : wrap64 (sm + max (x - y) (y - x)) = sm + max (x - y) (y - x) := by unfold wrap64; omega
      have e4 : (if x - y < y - x then y - x else x - y) = max (x - y) (y - x) := by rw [Int.max_def]; split <;> split <;> omega
      have E3 := Lib.hid e3; have E4 := Lib.hid e4
      clear e3 e4
      have i1 : (k : Int) < (xs.length : Int) := by omega
      have i2 : (k : Int) < (ys.length : Int) := by omega
      have Hs := Lib.hid hs
      clear hs hb hx1 hy1 hxx hyy hsm
      go_wp2
      go_quiet (fail)
      go_wp2
      go_roundw
      case rel => exact ⟨k + 1, by omega, by go_num, by first | (rw [Hs.out, E4.out]; exact congrArg _ E3.out) | (rw [Hs.out]; exact congrArg _ E3.out), _, rfl⟩
      case measure => simp [intOf]; omega
    · obtain rfl : k = xs.length := by omega
      have hb := absSum_bd xs ys HX.out HY.out
      have hs : absSum (xs.take xs.length) (ys.take xs.length) = absSum xs ys := by rw [List.take_length, ← HL.out, List.take_length]
      rw [hs]
      obtain ⟨sm, hsm⟩ : ∃ sm, sm = absSum xs ys := ⟨_, rfl⟩
      rw [← hsm] at hb ⊢
      have Hsm := Lib.hid hsm
      clear hs hsm
      have Hbd : Hid (Bd sm ∧ 0 < (xs.length : Int) ∧ (xs.length : Int) ≤ 9223372036854775807) := by unfold Hid Bd; omega
      have hdn : difN xs ys = sm.tdiv (gcdI sm xs.length) := by rw [difN, Hsm.out]
      have hdd : difD xs ys = (xs.length : Int) / gcdI sm xs.length := by rw [difD, Hsm.out]
      obtain ⟨dn, hdn2⟩ : ∃ dn, dn = sm.tdiv (gcdI sm xs.length) := ⟨_, rfl⟩
      obtain ⟨dd, hdd2⟩ : ∃ dd, dd = (xs.length : Int) / gcdI sm xs.length := ⟨_, rfl⟩
      have HC : Hid (∀ W, Calls Tryz.prog 137 #[.int .i64 sm, .int .i64 (xs.length : Int)] W fun e w' => e = .returned (.agg #[.int .i64 dn, .int .i64 dd]) ∧ Below W.heap.size W w') := fun W => by
        have h := ratio_any sm xs.length W Hbd.out.1 Hbd.out.2
        rw [← hdn2, ← hdd2] at h; exact h
      rw [← hdn2] at hdn; rw [← hdd2] at hdd
      have Hdn := Lib.hid hdn; have Hdd := Lib.hid hdd
      clear hdn hdd hdn2 hdd2 hb
      go_wp2_with fail
      refine (HC.out _).mono ?_
      rintro e w2 ⟨rfl, hb2⟩
      have HR2 : Hid (Row w2 w.heap.size 110 [.int .i64 0, .int .i64 0]) := Row.old (w := W.drewN q) HR.out hb2
      have HB2 : Hid (Below w.heap.size w w2) := (below_drewN HRB.out q).trans (hb2.mono HRB.out.size)
      clear hb2
      go_wp2_with (refine wpList_store_row rfl 110 _ _ rfl w.heap.size #[.int .i64 dn, .int .i64 dd] rfl rfl 110 _ HR2.out ?_ ?_ ?_ ?_; (kernel_rfl); (rfl); (simp [Value.oneCell']))
      refine bodyPost_ret (results_row1 rfl _ _ w.heap.size 110 #[.int .i64 dn, .int .i64 dd] (0, 0) _ rfl (HR2.out.setRow [.int .i64 dn, .int .i64 dd]) Tryz.underlying110 rfl (by kernel_rfl)) rfl ⟨by rw [Hdn.out, Hdd.out], ?_⟩
      exact Below.setRow HB2.out (Nat.le_refl _) _
end Go.Proofs.YtoclnlimnjnbkaaGreatDoor
