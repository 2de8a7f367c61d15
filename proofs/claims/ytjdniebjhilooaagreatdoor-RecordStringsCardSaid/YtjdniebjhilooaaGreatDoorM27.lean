import Derived.Test.YtjdniebjhilooaaGreatDoorM26
import Derived.Deep.LoopGhost
namespace Go.Proofs.YtjdniebjhilooaaGreatDoor
set_option linter.all false
open Go.RowKit Go.Fl


def CxP (a : List Int) (r0 i0 r1 i1 r2 i2 r3 i3 : Nat) : Prop := ∀ j (h : j < [(r0, i0), (r1, i1), (r2, i2), (r3, i3)].length), S [(r0, i0), (r1, i1), (r2, i2), (r3, i3)][j].1 (fourP a j 4).1 ∧ S [(r0, i0), (r1, i1), (r2, i2), (r3, i3)][j].2 (fourP a j 4).2
theorem CxP.part {a : List Int} (ha : ∀ j, (a.getD j 0).natAbs ≤ 16384) {r0 i0 r1 i1 r2 i2 r3 i3 : Nat} (h : CxP a r0 i0 r1 i1 r2 i2 r3 i3) : ∀ p ∈ [(r0, i0), (r1, i1), (r2, i2), (r3, i3)], partI p.1 65536 = 0 ∧ partI p.2 65536 = 0 := by
 intro p hp
 obtain ⟨j, hj, rfl⟩ := List.mem_iff_getElem.1 hp
 have hbd := fourP_bd a j 4 ha
 exact ⟨partI_S (h j hj).1 hbd.1, partI_S (h j hj).2 hbd.2⟩



theorem owns_cap {w : World} {B : Nat} {e : TypeId} {s n m c : Nat} {A : Option Addr} {vs : List Value} (h : w.ownsRow B e s (.slice A n c) m vs) : n ≤ c ∧ (A = none → c = 0) := by
 rcases h.2 with ⟨h1, hn⟩ | ⟨g, cap, cur, h1, _, _, hcap, _⟩
 · cases h1; exact ⟨Nat.le_refl _, fun _ => rfl⟩
 · cases h1; exact ⟨hcap, fun h => by cases h⟩
set_option maxRecDepth 100000 in
set_option maxHeartbeats 4000000 in
theorem given_ok (st sp : Int) (A B : Option Addr) (c d : Nat) (xs : List Nat) (ms : List (Int × ByteArray)) (w : World) (hA : Rd w A (flts xs)) (hB : Rd w B (markC ms)) (hx : xs.length ≤ 1000000) (hm : ms.length ≤ 1000000) (hc : A = none → c = 0) :
 Calls Tryz.prog 10 #[.agg #[.int .i64 st, .int .i64 sp, .slice A xs.length c, .slice B ms.length d]] w fun e w' => ∃ A' c' B' d', e = .returned (.agg #[.int .i64 st, .int .i64 sp, .slice A' xs.length c', .slice B' ms.length d']) ∧ Rd w' A' (flts xs) ∧ Rd w' B' (markC ms) ∧ Below w.heap.size w w' ∧ xs.length ≤ c' ∧ (A' = none → c' = 0) := by
 have HA : Hid (∀ W, Below w.heap.size w W → Rd W A (flts xs)) := fun W h => hA.below h
 have HB : Hid (∀ W, Below w.heap.size w W → Rd W B (markC ms)) := fun W h => hB.below h
 clear hA hB
 have R0 := (Row.new w 25 [.int .i64 st, .int .i64 sp, .slice A xs.length c, .slice B ms.length d]).alloc (.cells zero4.toArray 33)
 have R1 := Row.new (w.alloc (.cells #[.int .i64 st, .int .i64 sp, .slice A xs.length c, .slice B ms.length d] 25)) 33 zero4
 rw [World.size_alloc] at R1
 have RB := ((Below.refl w.heap.size w).alloc (Nat.le_refl _) (.cells #[.int .i64 st, .int .i64 sp, .slice A xs.length c, .slice B ms.length d] 25)).alloc (by simp) (.cells zero4.toArray 33)
 go_enter Tryz.func10, Tryz.ntmps10
 go_upto_region 1 with fail
 refine genH (w0 := w) w.heap.size (w.heap.size + 1) _ _ _ _ R0 R1 RB ?_
 clear R0 R1 RB
 intro W R0 R1 RB
 have q0 := R0.cell 0; have q1 := R0.cell 1; have q2 := R0.cell 2
 simp only [List.getElem?_cons_succ, List.getElem?_cons_zero] at q0 q1 q2
 have hsz := R1.lt
 have hsz0 := R0.lt
 have HRB := Lib.hid RB; have HR0 := Lib.hid R0; have HR1 := Lib.hid R1
 have HF : Hid (∀ W', Below W.heap.size W W' → Calls Tryz.prog 27 #[.slice A xs.length c] W' fun e w' => ∃ A' c', e = .returned (.slice A' xs.length c') ∧ w'.ownsRow W'.heap.size 56 1 (.slice A' xs.length c') xs.length (flts xs) ∧ Below W'.heap.size W' w' ∧ w'.cell? ⟨w.heap.size, 0, none⟩ = some (.int .i64 st) ∧ w'.cell? ⟨w.heap.size, 1, none⟩ = some (.int .i64 sp)) := fun W' h =>
  (floats_any A xs.length c xs W' (HA.out _ (HRB.out.trans (h.mono HRB.out.size))) rfl hc (by omega)).mono fun e w' ⟨v, h1, h2, h3⟩ => by
    obtain ⟨A', c', rfl, -⟩ := owned_slice h2
    have hb := h.trans (h3.mono h.size)
    exact ⟨A', c', h1, h2, h3, (HR0.out.old hb).cell 0, (HR0.out.old hb).cell 1⟩
 clear RB R0 R1
 go_cut [3] (fun s3 wx => ∃ (g : Nat) (A' : Option Addr) (c' : Nat), s3 = .pointer (some ⟨g, 0, none⟩) ∧ Row wx g 33 [.int .i64 st, .int .i64 sp, .slice A' xs.length c', .slice none 0 0] ∧ (Value.slice A' xs.length c').ownBlock ≠ some g ∧ wx.ownsRow W.heap.size 56 1 (.slice A' xs.length c') xs.length (flts xs) ∧ W.heap.size ≤ g ∧ Below W.heap.size W wx)
 case first =>
  refine wp_region_held_drew (S := fun w' => w'.cell? ⟨w.heap.size, 0, none⟩ = some (.int .i64 st) ∧ w'.cell? ⟨w.heap.size, 1, none⟩ = some (.int .i64 sp) ∧ w'.cell? ⟨w.heap.size, 2, none⟩ = some (.slice A xs.length c) ∧ Below W.heap.size W w') (by kernel_rfl) ?_ (fun hHeld => ?_)
  · exact ⟨HR0.out.cell 0, HR0.out.cell 1, HR0.out.cell 2, (Below.refl _ _).drew⟩
  refine wpAnyH_take (i := 0) (v := ?_) rfl (by kernel_rfl) (by kernel_rfl) (by kernel_rfl) (fun _ _ _ h => h) (Or.inl ⟨by kernel_rfl, ?_⟩) hHeld ?_
  rotate_left
  · intro w1 hSw; (try dsimp only at hSw); go_simp <;> with_reducible rfl
  try simp only [Act.put, List.setIfInBounds_toArray, List.set_cons_zero, List.set_cons_succ]
  refine wpAnyH_take (i := 1) (v := ?_) rfl (by kernel_rfl) (by kernel_rfl) (by kernel_rfl) (fun _ _ _ h => h) (Or.inl ⟨by kernel_rfl, ?_⟩) hHeld ?_
  rotate_left
  · intro w1 hSw; (try dsimp only at hSw); go_simp <;> with_reducible rfl
  try simp only [Act.put, List.setIfInBounds_toArray, List.set_cons_zero, List.set_cons_succ]
  refine wpAnyH_take (i := 2) (v := ?_) rfl (by kernel_rfl) (by kernel_rfl) (by kernel_rfl) (fun _ _ _ h => h) (Or.inl ⟨by kernel_rfl, ?_⟩) hHeld ?_
  rotate_left
  · intro w1 hSw; (try dsimp only at hSw); go_simp <;> with_reducible rfl
  try simp only [Act.put, List.setIfInBounds_toArray, List.set_cons_zero, List.set_cons_succ]
  refine wpAnyH_take (i := 3) (v := ?_) rfl (by kernel_rfl) (by kernel_rfl) (by kernel_rfl) (fun _ _ _ h => h) (Or.inl ⟨by kernel_rfl, ?_⟩) hHeld ?_
  rotate_left
  · intro w1 hSw; (try dsimp only at hSw); go_simp <;> with_reducible rfl
  try simp only [Act.put, List.setIfInBounds_toArray, List.set_cons_zero, List.set_cons_succ]
  refine wpAnyH_take (i := 4) (v := ?_) rfl (by kernel_rfl) (by kernel_rfl) (by kernel_rfl) (fun _ _ _ h => h) (Or.inl ⟨by kernel_rfl, ?_⟩) hHeld ?_
  rotate_left
  · intro w1 hSw; (try dsimp only at hSw); go_simp <;> with_reducible rfl
  try simp only [Act.put, List.setIfInBounds_toArray, List.set_cons_zero, List.set_cons_succ]
  refine wpAnyH_take (i := 5) (v := ?_) rfl (by kernel_rfl) (by kernel_rfl) (by kernel_rfl) (fun _ _ _ h => h) (Or.inl ⟨by kernel_rfl, ?_⟩) hHeld ?_
  rotate_left
  · intro w1 hSw; (try dsimp only at hSw); go_simp <;> with_reducible rfl
  try simp only [Act.put, List.setIfInBounds_toArray, List.set_cons_zero, List.set_cons_succ]
  refine wpAnyH_ready (rs := [6, 8]) (by kernel_rfl) (by simp) ?_
  refine AllReadyH.cons rfl (fun K hK => ?_) (AllReadyH.cons rfl (fun K hK => ?_) (AllReadyH.nil))
  ·
   go_simp
   go_at_call 27
   refine (HF.out _ hHeld.2.2.2).mono ?_
   rintro e w2 ⟨A2, c2, rfl, ho2, hb2, -, -⟩
   try go_simp
   refine hK.out _ _ ?_ (fun hHeld => ?_)
   · exact ⟨keepC hHeld.1 hb2, keepC hHeld.2.1 hb2, keepC hHeld.2.2.1 hb2, hHeld.2.2.2.trans ((hb2).mono hHeld.2.2.2.size)⟩
   clear hK K
   try simp only [Act.put, List.setIfInBounds_toArray, List.set_cons_zero, List.set_cons_succ]
   refine wpAnyH_take (i := 7) (oi := { dst := some 13, op := Op.build 33 #[(0, Operand.tmp 7), (1, Operand.tmp 9), (2, Operand.tmp 12)], type := 33, pos := _, after := #[{ on := 1, ground := Ground.data }, { on := 3, ground := Ground.data }, { on := 6, ground := Ground.data }], guard := none }) (v := ?_) rfl (by kernel_rfl) (by kernel_rfl) (by kernel_rfl) (fun _ _ _ h => h) (Or.inl ⟨by kernel_rfl, ?_⟩) hHeld ?_
   rotate_left
   · intro w1 hSw; (try dsimp only at hSw); go_simp <;> with_reducible rfl
   try simp only [Act.put, List.setIfInBounds_toArray, List.set_cons_zero, List.set_cons_succ]
   refine wpAnyH_ready (rs := [8]) (by kernel_rfl) (by simp) ?_
   refine AllReadyH.cons rfl (fun K hK => ?_) (AllReadyH.nil)
   go_simp
   refine hK.out _ _ ?_ (fun hHeld => ?_)
   · exact ⟨keepC hHeld.1 ((Below.refl _ _).alloc (Nat.le_refl _) _), keepC hHeld.2.1 ((Below.refl _ _).alloc (Nat.le_refl _) _), keepC hHeld.2.2.1 ((Below.refl _ _).alloc (Nat.le_refl _) _), hHeld.2.2.2.trans ((((Below.refl _ _).alloc (Nat.le_refl _) _)).mono hHeld.2.2.2.size)⟩
   clear hK K
   try simp only [Act.put, List.setIfInBounds_toArray, List.set_cons_zero, List.set_cons_succ]
   refine wpAnyH_ready (rs := [9]) (by kernel_rfl) (by simp) ?_
   refine AllReadyH.cons rfl (fun K hK => ?_) (AllReadyH.nil)
   have zz := hHeld.2.2.2.size
   rw [World.size_alloc] at zz
   have zw := (((Below.refl _ W).drew.trans hb2)).size
   have hz := Row.new w2 33 zero4
   refine step_store_row rfl 33 _ _ rfl w2.heap.size [.int .i64 st, .int .i64 sp, .slice A2 xs.length c2, .slice none 0 0] rfl rfl 33 zero4 hz (by kernel_rfl) rfl (by simp [Value.oneCell']) ?_
   refine hK.out _ _ ?_ (fun hHeld => ?_)
   · exact ⟨(cell_far _ (by omega)).trans hHeld.1, (cell_far _ (by omega)).trans hHeld.2.1, (cell_far _ (by omega)).trans hHeld.2.2.1, Below.setRow hHeld.2.2.2 (by omega) _⟩
   clear hK K
   try simp only [Act.put, List.setIfInBounds_toArray, List.set_cons_zero, List.set_cons_succ]
   refine wpAnyH_done (by kernel_rfl) ?_ _
   go_wp2_with fail
   go_meet
   have zb : Below W.heap.size W w2 := (Below.refl _ W).drew.trans hb2
   refine ⟨w2.heap.size, A2, c2, rfl, hz.setRow _, fun e => ?_, owns_other w2.heap.size ho2 (fun j hj hne => (setRow_other _ _ _ _ hne).trans (((Below.refl w2.heap.size w2).alloc (Nat.le_refl _) _).block j hj)) (fun e => ?_), zb.size, Below.setRow (zb.alloc zb.size _) zb.size _⟩
   · have := (ho2.lt _ e).2; omega
   · have := (ho2.lt _ e).2; omega
  ·
   go_simp
   refine hK.out _ _ ?_ (fun hHeld => ?_)
   · exact ⟨keepC hHeld.1 ((Below.refl _ _).alloc (Nat.le_refl _) _), keepC hHeld.2.1 ((Below.refl _ _).alloc (Nat.le_refl _) _), keepC hHeld.2.2.1 ((Below.refl _ _).alloc (Nat.le_refl _) _), hHeld.2.2.2.trans ((((Below.refl _ _).alloc (Nat.le_refl _) _)).mono hHeld.2.2.2.size)⟩
   clear hK K
   try simp only [Act.put, List.setIfInBounds_toArray, List.set_cons_zero, List.set_cons_succ]
   refine wpAnyH_ready (rs := [6]) (by kernel_rfl) (by simp) ?_
   refine AllReadyH.cons rfl (fun K hK => ?_) (AllReadyH.nil)
   go_simp
   go_at_call 27
   refine (HF.out _ hHeld.2.2.2).mono ?_
   rintro e w2 ⟨A2, c2, rfl, ho2, hb2, -, -⟩
   try go_simp
   refine hK.out _ _ ?_ (fun hHeld => ?_)
   · exact ⟨keepC hHeld.1 hb2, keepC hHeld.2.1 hb2, keepC hHeld.2.2.1 hb2, hHeld.2.2.2.trans ((hb2).mono hHeld.2.2.2.size)⟩
   clear hK K
   try simp only [Act.put, List.setIfInBounds_toArray, List.set_cons_zero, List.set_cons_succ]
   refine wpAnyH_take (i := 7) (oi := { dst := some 13, op := Op.build 33 #[(0, Operand.tmp 7), (1, Operand.tmp 9), (2, Operand.tmp 12)], type := 33, pos := _, after := #[{ on := 1, ground := Ground.data }, { on := 3, ground := Ground.data }, { on := 6, ground := Ground.data }], guard := none }) (v := ?_) rfl (by kernel_rfl) (by kernel_rfl) (by kernel_rfl) (fun _ _ _ h => h) (Or.inl ⟨by kernel_rfl, ?_⟩) hHeld ?_
   rotate_left
   · intro w1 hSw; (try dsimp only at hSw); go_simp <;> with_reducible rfl
   try simp only [Act.put, List.setIfInBounds_toArray, List.set_cons_zero, List.set_cons_succ]
   refine wpAnyH_ready (rs := [9]) (by kernel_rfl) (by simp) ?_
   refine AllReadyH.cons rfl (fun K hK => ?_) (AllReadyH.nil)
   have zz := hHeld.2.2.2.size
   have hz : Row w2 W.heap.size 33 zero4 := Row.old (w := (W.drew.alloc (.cells zero4.toArray 33))) (Row.new W.drew 33 zero4) hb2
   refine step_store_row rfl 33 _ _ rfl W.heap.size [.int .i64 st, .int .i64 sp, .slice A2 xs.length c2, .slice none 0 0] rfl rfl 33 zero4 hz (by kernel_rfl) rfl (by simp [Value.oneCell']) ?_
   refine hK.out _ _ ?_ (fun hHeld => ?_)
   · exact ⟨(cell_far _ (by omega)).trans hHeld.1, (cell_far _ (by omega)).trans hHeld.2.1, (cell_far _ (by omega)).trans hHeld.2.2.1, Below.setRow hHeld.2.2.2 (by omega) _⟩
   clear hK K
   try simp only [Act.put, List.setIfInBounds_toArray, List.set_cons_zero, List.set_cons_succ]
   refine wpAnyH_done (by kernel_rfl) ?_ _
   go_wp2_with fail
   go_meet
   have zb : Below W.heap.size W w2 := ((Below.refl _ W).drew.alloc (Nat.le_refl _) _).trans (hb2.mono (by simp))
   have zs : W.heap.size < (W.drew.alloc (.cells zero4.toArray 33)).heap.size := by rw [World.size_alloc]; exact Nat.lt_succ_self _
   refine ⟨W.heap.size, A2, c2, rfl, hz.setRow _, fun e => ?_, owns_far ho2 _ _ zs (Nat.le_of_lt zs), Nat.le_refl _, Below.setRow zb (Nat.le_refl _) _⟩
   have h1 := (ho2.lt _ e).1
   exact absurd (Nat.lt_of_lt_of_le zs h1) (Nat.lt_irrefl _)
 case rest =>
  obtain ⟨g, A2, c2, rfl, hrow, hne, ho, hg, hbw⟩ := hcut
  have HB1 := Lib.hid (HB.out _ (HRB.out.trans (hbw.mono HRB.out.size)))
  have hr3 := (HR0.out.old hbw).cell 3
  simp only [List.getElem?_cons_succ, List.getElem?_cons_zero] at hr3
  have HBx := Lib.hid (HRB.out.trans (hbw.mono HRB.out.size))
  have HRow := Lib.hid hrow; have HO := Lib.hid ho; have HNe := Lib.hid hne
  have hgs : g < wc.heap.size := hrow.lt
  have HT1 := Lib.hid (HR1.out.old hbw)
  have HGW := Lib.hid hsz
  have HGS : Hid (w.heap.size + 1 < g ∧ g < wc.heap.size) := ⟨by omega, hgs⟩
  obtain ⟨im, him0, him1, him2, him3⟩ := info_parts info158
  clear hrow ho hne hbw hg hgs hsz hsz0 q0 q1 q2 HF HR0 HR1 HRB
  go_wp2
  go_loopg [17] ms.length (fun gg i wr => ∃ (k : Nat) (u : Value), k ≤ ms.length ∧ i = .int .i64 k ∧ gg = ms.length - k ∧ Hid (wr.ownsRow wc.heap.size 117 2 u k (markC (ms.take k))) ∧ Hid (Row wr g 33 [.int .i64 st, .int .i64 sp, .slice A2 xs.length c2, u]) ∧ Hid (∀ j, j < wc.heap.size → j ≠ g → wr.heap[j]? = wc.heap[j]?) ∧ Hid (Below w.heap.size w wr) ∧ Hid (wc.heap.size ≤ wr.heap.size))
  case atStart => exact ⟨0, .slice none 0 0, Nat.zero_le _, rfl, rfl, World.ownsRow_nil _ _ _ _, HRow, fun j _ _ => rfl, HBx, Nat.le_refl _⟩
  case round =>
   obtain ⟨k, u, hk, rfl, hgk, Ho, KR, KK, KB, KS⟩ := hrel
   subst hgk
   have hRdB : Rd wr B (markC ms) := HB.out _ KB.out
   by_cases hlt : k < ms.length
   · obtain ⟨b, off, hBb, hc1, hc2⟩ := Rd.mark hRdB hlt
     subst hBb
     obtain ⟨ix, hix⟩ : ∃ ix, ix = ms[k].1 := ⟨_, rfl⟩
     obtain ⟨nm, hnm⟩ : ∃ nm, nm = ms[k].2 := ⟨_, rfl⟩
     rw [← hix] at hc1; rw [← hnm] at hc2
     have HT : Hid (markC (ms.take (k + 1)) = markC (ms.take k) ++ [.int .i64 ix, .string nm]) := by
      unfold Hid; rw [List.take_succ_eq_append_getElem hlt, markC_app, hix, hnm]; simp [markC]
     clear hix hnm
     have N0 := Lib.hid (KR.out.alloc (.cells #[.int .i64 ix, .string nm] 90))
     have No := Lib.hid (Ho.out.alloc (.cells #[.int .i64 ix, .string nm] 90))
     have n3 := N0.out.cell 3
     simp only [List.getElem?_cons_succ, List.getElem?_cons_zero] at n3
     have hs1 := KS.out
     have hs2 := HGS.out.2
     have hs3 : g < wr.heap.size := by omega
     go_wp2_with (at_builtin; refine wpList_append_own_at _ rfl _ _ 31 rfl wc.heap.size 117 im (.agg #[.int .i64 0, .string ⟨#[]⟩]) 2 24 Tryz.underlying31 him0 him1 him2 him3 rfl (by decide) _ _ _ rfl (No.out.alloc _) ⟨wr.heap.size + 1, 0, none⟩ 1 1 [.int .i64 ix, .string nm] rfl rfl (news2 _ _ _ _ _ ?c1) ?c2 ?c3 ?c4 ?c5 ?_)
     case c1 => simp
     case c2 => simp [Value.oneCell']
     case c3 => unfold maxLen; omega
     case c4 => omega
     case c5 => simp; omega
     intro v' w3 ho hg3 _ hat
     have hst : Step (wr.alloc (.cells #[.int .i64 ix, .string nm] 90)) w3 u v' := Step.of_alloc hg3 (by rw [World.size_alloc, World.size_alloc]; exact hat)
     have hb3 := hst.below No.out (by simp; omega)
     have Hb3 : Hid (Below wc.heap.size wr w3) := (((Below.refl wc.heap.size wr).alloc hs1 _)).trans hb3
     have hr3 : Row w3 g 33 [.int .i64 st, .int .i64 sp, .slice A2 xs.length c2, u] := KR.out.below Hb3.out hs2
     have HR3 := Lib.hid hr3
     have m3 := hr3.cell 3
     have mf := hr3.free 3
     simp only [List.getElem?_cons_succ, List.getElem?_cons_zero] at m3
     have Ho3 : Hid (w3.ownsRow wc.heap.size 117 2 v' (k + 1) (markC (ms.take (k + 1)))) := by
      unfold Hid; rw [HT.out]; exact ho
     clear ho hg3 hat hst hb3 hr3 n3 hc1 hc2
     obtain ⟨A3, c3, rfl, -⟩ := owned_slice Ho3.out
     obtain ⟨v', hv'⟩ : ∃ v', v' = Value.slice A3 (k + 1) c3 := ⟨_, rfl⟩
     go_wp2
     go_roundg (ms.length - (k + 1))
     case measure => omega
     case rel =>
      have hz := Hb3.out.size
      rw [← hv'] at Ho3 ⊢
      refine ⟨k + 1, v', by omega, by go_num, rfl, ?_, HR3.out.set 3 v', ?_, ?_, ?_⟩
      · exact owns_other g Ho3.out (fun j _ hne => heap_setCell_other w3 ⟨g, 3, none⟩ j v' hne) (fun e => by have := (Ho3.out.lt _ e).1; omega)
      · exact fun j hj hne => ((heap_setCell_other w3 ⟨g, 3, none⟩ j v' hne).trans (Hb3.out.block j hj)).trans (KK.out j hj hne)
      · have h0 := HGS.out.1
        have h1 : Below w.heap.size w w3 := KB.out.trans (Hb3.out.mono (by omega))
        exact h1.setCell (p := ⟨g, 3, none⟩) (by show w.heap.size ≤ g; omega) v'
      · have h1 : Below wc.heap.size wr w3 := Hb3.out
        have h2 := ((Below.refl 0 w3).setCell (p := ⟨g, 3, none⟩) (Nat.zero_le _) v').size
        show wc.heap.size ≤ _
        omega
   · obtain rfl : k = ms.length := by omega
     obtain ⟨B2, d2, rfl, -⟩ := owned_slice Ho.out
     have hT1 : Row wr (w.heap.size + 1) 33 zero4 := (KK.out _ HT1.out.lt (by have := HGS.out.1; omega)).trans HT1.out
     have HT2 := Lib.hid hT1
     have h1 := HGW.out; have h2 := HGS.out
     clear hT1
     go_wp2_with (first
      | (refine wpList_load_row rfl 33 _ rfl g rfl 33 #[.int .i64 st, .int .i64 sp, .slice A2 xs.length c2, .slice B2 ms.length d2] (0, 0) _ KR.out Tryz.underlying33 rfl ?_ ?_; (kernel_rfl))
      | (refine wpList_store_row rfl 33 _ _ rfl (w.heap.size + 1) #[.int .i64 st, .int .i64 sp, .slice A2 xs.length c2, .slice B2 ms.length d2] rfl rfl 33 _ HT2.out ?_ ?_ ?_ ?_; (kernel_rfl); (rfl); (simp [Value.oneCell'])))
     have hrow : Row (wr.setRow (w.heap.size + 1) [Value.int .i64 st, .int .i64 sp, .slice A2 xs.length c2, .slice B2 ms.length d2].toArray) (w.heap.size + 1) 33 [.int .i64 st, .int .i64 sp, .slice A2 xs.length c2, .slice B2 ms.length d2] := HT2.out.setRow _
     refine bodyPost_ret (results_row1 rfl _ _ (w.heap.size + 1) 33 _ (0, 0) _ rfl hrow Tryz.underlying33 rfl (by kernel_rfl)) rfl ⟨A2, c2, B2, d2, rfl, ?_, ?_, ?_, owns_cap HO.out⟩
     · exact owned_rd (owns_far (owns_other g HO.out (fun j hj hne => KK.out j hj hne) HNe.out) _ _ h1 (Nat.zero_le _) (B' := 0))
     · have := Ho.out; rw [List.take_of_length_le (Nat.le_refl _)] at this
       exact owned_rd (owns_far this _ _ (by omega) (Nat.zero_le _) (B' := 0))
     · exact Below.setRow KB.out (by omega) _

end Go.Proofs.YtjdniebjhilooaaGreatDoor
