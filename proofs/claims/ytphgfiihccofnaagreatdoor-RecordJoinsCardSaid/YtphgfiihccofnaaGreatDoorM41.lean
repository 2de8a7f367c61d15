import Derived.Test.YtphgfiihccofnaaGreatDoorM33
import Derived.Test.YtphgfiihccofnaaGreatDoorM40
/- Contracts: a recording with lists of its own. -/
namespace Go.Proofs.YtphgfiihccofnaaGreatDoor
set_option linter.all false
open Go.RowKit Go.Fl
set_option linter.unusedVariables false
set_option linter.unusedSimpArgs false

theorem step_app2 {P : Program} {w : World} {ops : Array Oper} {o : Oper} {a : Act} {K : Act → World → Prop} {Q : Exit → Act → World → Prop} {E : Prop} (hgd : o.guard = none) (s x : Operand) (t : TypeId)
    (ho : o.op = .call { callee := .builtin .append, args := #[s, x], argTypes := #[t, t] })
    (base : Nat) (e : TypeId) (z : Value) (size bytes : Nat) (ht : P.underlying t = some (.slice e)) (hinfo : (P.info? e).map (fun i => (i.zero, i.size, i.bytes)) = some (some z, size, bytes)) (hzs : z.cells.size = size) (hsz : 0 < size)
    (v : Value) (n : Nat) (xs : List Value) (hs : a.eval s = v) (hown : w.ownsRow base e size v n xs)
    (g m c : Nat) (news : List Value) (hx : a.eval x = .slice (some ⟨g, 0, none⟩) m c) (u : TypeId) (hr : Row w g u news) (hl : news.length = m * size) (h1 : ∀ u ∈ news, u.oneCell' = true)
    (h63 : n + m ≤ maxLen) (hbytes : (n + m) * bytes ≤ 140737488355328) (hbase : base ≤ w.heap.size)
    (h : ∀ v' w', w'.ownsRow base e size v' (n + m) (xs ++ news) → w.grownBy w' v.ownBlock → (v'.ownBlock = v.ownBlock ∨ v'.ownBlock = some w.heap.size) → K (a.put o.dst v') w') :
    if Region.wanted o (yielded ops a.tmps) = true then Oper.wp P o a w K Q else E := by
  have hw : Region.wanted o (yielded ops a.tmps) = true := by simp [Region.wanted, hgd]
  rw [if_pos hw]
  obtain ⟨i, hi, hz0, hz1, hz2⟩ := info_parts hinfo
  obtain ⟨v', w', hr2, h2, h3, _, h5⟩ := run_append_own_at (P := P) w base t o.type e i z size bytes ht hi hz0 hz1 hz2 hzs hsz v n xs hown ⟨g, 0, none⟩ m c news hl
    (fun j u hu => by
      obtain ⟨b, off, hh, hcell⟩ := Rd.row hr j u hu
      cases hh
      by_cases hj : j = 0
      · subst hj; simpa [Addr.add] using hcell
      · simpa [Addr.add, hj] using hcell) h1 h63 hbytes hbase
  unfold Oper.wp execOp
  simp only [ho, resolve, invoke, builtin, Sem.run_bind, Sem.run_pure, Result.andThen_ok, List.map_toArray, List.map_cons, List.map_nil, hs, hx, hr2]
  exact h _ _ h2 h3 h5

set_option maxRecDepth 100000 in
set_option maxHeartbeats 2000000 in
theorem ownR_any (st sp : Int) (A1 B1 : Option Addr) (c1 d1 : Nat) (xs : List Nat) (ms : List (Int × ByteArray)) (w : World) (hA : Rd w A1 (flts xs)) (hB : Rd w B1 (markC ms)) (hx : xs.length ≤ 1000000) (hm : ms.length ≤ 1000000) (hac : A1 = none → c1 = 0) (hbc : B1 = none → d1 = 0) :
    Calls Tryz.prog 66 #[.agg #[.int .i64 st, .int .i64 sp, .slice A1 xs.length c1, .slice B1 ms.length d1]] w fun e w' => ∃ GA gc GB gd, e = .returned (.agg #[.int .i64 st, .int .i64 sp, .slice GA xs.length gc, .slice GB ms.length gd]) ∧ w'.ownsRow w.heap.size 90 1 (.slice GA xs.length gc) xs.length (flts xs) ∧ w'.ownsRow w.heap.size 83 2 (.slice GB ms.length gd) ms.length (markC ms) ∧ ((Value.slice GA xs.length gc).ownBlock = none ∨ (Value.slice GA xs.length gc).ownBlock ≠ (Value.slice GB ms.length gd).ownBlock) ∧ Below w.heap.size w w' := by
  have HA : Hid (∀ W, Below w.heap.size w W → Rd W A1 (flts xs)) := fun W h => hA.below h
  have HB : Hid (∀ W, Below w.heap.size w W → Rd W B1 (markC ms)) := fun W h => hB.below h
  clear hA hB
  have R0 := (Row.new w 25 [.int .i64 st, .int .i64 sp, .slice A1 xs.length c1, .slice B1 ms.length d1]).alloc (.cells zero4.toArray 25)
  have R1 := Row.new (w.alloc (.cells #[.int .i64 st, .int .i64 sp, .slice A1 xs.length c1, .slice B1 ms.length d1] 25)) 25 zero4
  rw [World.size_alloc] at R1
  have RB := ((Below.refl w.heap.size w).alloc (Nat.le_refl _) (.cells #[.int .i64 st, .int .i64 sp, .slice A1 xs.length c1, .slice B1 ms.length d1] 25)).alloc (by simp) (.cells zero4.toArray 25)
  go_enter Tryz.func66, Tryz.ntmps66
  go_upto_region 1 with fail
  refine genH (w0 := w) w.heap.size (w.heap.size + 1) _ _ _ _ R0 R1 RB ?_
  clear R0 R1 RB
  intro W R0 R1 RB
  have q2 := R0.cell 2; have q3 := R0.cell 3
  simp only [List.getElem?_cons_succ, List.getElem?_cons_zero] at q2 q3
  have G0 := Lib.hid R0; have G1 := Lib.hid R1; have GB := Lib.hid RB
  have Z := Lib.hid R1.lt
  clear R0 R1 RB
  have HA2 := Lib.hid (HA.out _ (GB.out.alloc GB.out.size (.cells #[] 90)))
  have z := Z.out
  have q2a := (G0.out.alloc (.cells #[] 90)).cell 2
  simp only [List.getElem?_cons_succ, List.getElem?_cons_zero] at q2a
  go_wp2_with (at_builtin; refine wpList_app rfl _ _ 22 rfl W.heap.size 90 (.float .f32 0) 1 4 Tryz.underlying22 info37 rfl (by decide) _ 0 [] rfl (ownsRow.empty W 90 1) A1 xs.length c1 (flts xs) rfl hac HA2.out (by simp [flts]) ?c1 ?c2 ?c3 ?c4 ?_)
  case c1 => simp [flts, Value.oneCell']
  case c2 => unfold maxLen; omega
  case c3 => omega
  case c4 => simp
  intro v1 w1 ho1 hg1
  have ho1 : w1.ownsRow W.heap.size 90 1 v1 xs.length (flts xs) := by simpa using ho1
  obtain ⟨GA, gc, rfl, -⟩ := owned_slice ho1
  have n0 : some w.heap.size ≠ (Value.slice (some ⟨W.heap.size, 0, none⟩) 0 0).ownBlock := by simp [Value.ownBlock]; omega
  have n1 : some (w.heap.size + 1) ≠ (Value.slice (some ⟨W.heap.size, 0, none⟩) 0 0).ownBlock := by simp [Value.ownBlock]; omega
  have K0 := Lib.hid (Row.grown (G0.out.alloc (.cells #[] 90)) hg1 n0)
  have K1 := Lib.hid (Row.grown (G1.out.alloc (.cells #[] 90)) hg1 n1)
  have KB : Hid (Below w.heap.size w w1) := (GB.out.alloc GB.out.size _).grown hg1 (by simp; have := GB.out.size; omega) (fun k hk => by simp [Value.ownBlock] at hk; have := GB.out.size; omega)
  have KO := Lib.hid ho1
  have m2 := K0.out.cell 2; have m3 := K0.out.cell 3; have mf := K0.out.free 2
  simp only [List.getElem?_cons_succ, List.getElem?_cons_zero] at m2 m3
  clear ho1 hg1 n0 n1 q2 q3 q2a HA2 G0 G1 GB
  go_upto_region 2 with fail
  have zz := KB.out.size
  have hlA : ∀ q, (Value.slice GA xs.length gc).ownBlock = some q → W.heap.size ≤ q ∧ q < w1.heap.size := fun q hq => KO.out.lt q hq
  refine genR (fun V => Row V w.heap.size 25 [.int .i64 st, .int .i64 sp, .slice GA xs.length gc, .slice B1 ms.length d1] ∧ Row V (w.heap.size + 1) 25 zero4 ∧ Below w.heap.size w V ∧ V.ownsRow W.heap.size 90 1 (.slice GA xs.length gc) xs.length (flts xs))
    ⟨K0.out.set 2 _, K1.out.far (by show _ ≠ w.heap.size; omega) _, KB.out.setCell (p := ⟨w.heap.size, 2, none⟩) (Nat.le_refl _) _, owns_other w.heap.size KO.out (fun j _ hne => heap_setCell_other w1 ⟨w.heap.size, 2, none⟩ j _ hne) (fun e => by have := (hlA _ e).1; omega)⟩ ?_
  clear m2 m3 mf K0 K1 KB KO hlA zz z
  rintro W2 ⟨r0, r1, rb, ro⟩
  have q2 := r0.cell 2; have q3 := r0.cell 3
  simp only [List.getElem?_cons_succ, List.getElem?_cons_zero] at q2 q3
  have G0 := Lib.hid r0; have G1 := Lib.hid r1; have GB := Lib.hid rb; have GO := Lib.hid ro
  have Z2 := Lib.hid r1.lt
  clear r0 r1 rb ro
  have HB2 := Lib.hid (HB.out _ (GB.out.alloc GB.out.size (.cells #[] 83)))
  have z2 := Z2.out
  have q3a := (G0.out.alloc (.cells #[] 83)).cell 3
  simp only [List.getElem?_cons_succ, List.getElem?_cons_zero] at q3a
  go_wp2_with (at_builtin; refine wpList_app rfl _ _ 23 rfl W2.heap.size 83 (.agg #[.int .i64 0, .string ⟨#[]⟩]) 2 24 Tryz.underlying23 info185 rfl (by decide) _ 0 [] rfl (ownsRow.empty W2 83 2) B1 ms.length d1 (markC ms) rfl hbc HB2.out (markC_length _) ?c1 ?c2 ?c3 ?c4 ?_)
  case c1 => exact markC_one _
  case c2 => unfold maxLen; omega
  case c3 => omega
  case c4 => simp
  intro v1 w1 ho1 hg1
  have ho1 : w1.ownsRow W2.heap.size 83 2 v1 ms.length (markC ms) := by simpa using ho1
  obtain ⟨GB', gd, rfl, -⟩ := owned_slice ho1
  have z := Z.out
  have n0 : some w.heap.size ≠ (Value.slice (some ⟨W2.heap.size, 0, none⟩) 0 0).ownBlock := by simp [Value.ownBlock]; omega
  have n1 : some (w.heap.size + 1) ≠ (Value.slice (some ⟨W2.heap.size, 0, none⟩) 0 0).ownBlock := by simp [Value.ownBlock]; omega
  have K0 := Lib.hid (Row.grown (G0.out.alloc (.cells #[] 83)) hg1 n0)
  have K1 := Lib.hid (Row.grown (G1.out.alloc (.cells #[] 83)) hg1 n1)
  have KB : Hid (Below w.heap.size w w1) := (GB.out.alloc GB.out.size _).grown hg1 (by simp; have := GB.out.size; omega) (fun k hk => by simp [Value.ownBlock] at hk; have := GB.out.size; omega)
  have hltA : ∀ q, (Value.slice GA xs.length gc).ownBlock = some q → W.heap.size ≤ q ∧ q < W2.heap.size := fun q hq => GO.out.lt q hq
  have KV : Hid (w1.ownsRow W.heap.size 90 1 (.slice GA xs.length gc) xs.length (flts xs)) := (GO.out.alloc (.cells #[] 83)).kept hg1 (by
    cases hq : (Value.slice GA xs.length gc).ownBlock with
    | none => exact .inl rfl
    | some q => refine .inr ?_; have := (hltA q hq).2; simp [Value.ownBlock]; omega)
  have KO := Lib.hid ho1
  have HD : Hid ((Value.slice GA xs.length gc).ownBlock = none ∨ (Value.slice GA xs.length gc).ownBlock ≠ (Value.slice GB' ms.length gd).ownBlock) := by
    cases hq : (Value.slice GA xs.length gc).ownBlock with
    | none => exact .inl rfl
    | some q => exact .inr (fun e => by have h1 := (hltA q hq).2; have h2 := (KO.out.lt q e.symm).1; omega)
  have hlA : ∀ q, (Value.slice GA xs.length gc).ownBlock = some q → W.heap.size ≤ q := fun q hq => (hltA q hq).1
  have hlB : ∀ q, (Value.slice GB' ms.length gd).ownBlock = some q → W2.heap.size ≤ q := fun q hq => (KO.out.lt q hq).1
  have m2 := K0.out.cell 2; have m3 := K0.out.cell 3; have mf := K0.out.free 3
  simp only [List.getElem?_cons_succ, List.getElem?_cons_zero] at m2 m3
  clear ho1 hg1 n0 n1 q2 q3 q3a HB2 G0 G1 GB GO hltA
  go_upto_region 3 with fail
  refine genR (fun V => Row V w.heap.size 25 [.int .i64 st, .int .i64 sp, .slice GA xs.length gc, .slice GB' ms.length gd] ∧ Row V (w.heap.size + 1) 25 zero4 ∧ Below w.heap.size w V ∧ V.ownsRow W.heap.size 90 1 (.slice GA xs.length gc) xs.length (flts xs) ∧ V.ownsRow W2.heap.size 83 2 (.slice GB' ms.length gd) ms.length (markC ms))
    ⟨K0.out.set 3 _, K1.out.far (by show _ ≠ w.heap.size; omega) _, KB.out.setCell (p := ⟨w.heap.size, 3, none⟩) (Nat.le_refl _) _, owns_other w.heap.size KV.out (fun j _ hne => heap_setCell_other w1 ⟨w.heap.size, 3, none⟩ j _ hne) (fun e => by have := hlA _ e; omega), owns_other w.heap.size KO.out (fun j _ hne => heap_setCell_other w1 ⟨w.heap.size, 3, none⟩ j _ hne) (fun e => by have := hlB _ e; omega)⟩ ?_
  clear m2 m3 mf K0 K1 KB KV KO hlA hlB
  rintro W3 ⟨r0, r1, rb, ro, ru⟩
  have G0 := Lib.hid r0; have G1 := Lib.hid r1; have GB := Lib.hid rb; have GO := Lib.hid ro; have GU := Lib.hid ru
  clear r0 r1 rb ro ru
  go_wp2_with (first
    | (refine wpList_load_row rfl 25 _ rfl w.heap.size rfl 25 #[.int .i64 st, .int .i64 sp, .slice GA xs.length gc, .slice GB' ms.length gd] (0, 0) _ G0.out Tryz.underlying25 rfl ?_ ?_; (kernel_rfl))
    | (refine wpList_store_row rfl 25 _ _ rfl (w.heap.size + 1) #[.int .i64 st, .int .i64 sp, .slice GA xs.length gc, .slice GB' ms.length gd] rfl rfl 25 _ G1.out ?_ ?_ ?_ ?_; (kernel_rfl); (rfl); (simp [Value.oneCell'])))
  refine bodyPost_ret (results_row1 rfl _ _ (w.heap.size + 1) 25 _ (0, 0) _ rfl (G1.out.setRow [.int .i64 st, .int .i64 sp, .slice GA xs.length gc, .slice GB' ms.length gd]) Tryz.underlying25 rfl (by kernel_rfl)) rfl ⟨GA, gc, GB', gd, rfl, ?_, ?_, HD.out, ?_⟩
  · exact owns_far GO.out _ _ (by omega) (by omega)
  · exact owns_far GU.out _ _ (by omega) (by omega)
  · exact Below.setRow GB.out (by omega) _
end Go.Proofs.YtphgfiihccofnaaGreatDoor
