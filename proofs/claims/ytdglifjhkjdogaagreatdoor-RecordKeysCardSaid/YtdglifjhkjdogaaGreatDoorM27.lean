import Derived.Test.YtdglifjhkjdogaaGreatDoorM10
/- Contracts: Unfour, of the transform of four samples. -/
namespace Go.Proofs.YtdglifjhkjdogaaGreatDoor
set_option linter.all false
open Go.RowKit Go.Fl
set_option linter.unusedVariables false
set_option linter.unusedSimpArgs false

theorem gen_world {p : World → Prop} {w0 w : World} (g0 g1 g2 g3 : Nat) (t s : TypeId) (us vs zs ys : List Value) (h0 : Row w g0 t us) (h1 : Row w g1 t vs) (h2 : Row w g2 s zs) (h3 : Row w g3 s ys) (hb : Below w0.heap.size w0 w)
    (h : ∀ w3, Row w3 g0 t us → Row w3 g1 t vs → Row w3 g2 s zs → Row w3 g3 s ys → Below w0.heap.size w0 w3 → p w3) : p w := h w h0 h1 h2 h3 hb

set_option maxRecDepth 100000 in
set_option maxHeartbeats 1000000 in
theorem unfour_ok (r0 i0 r1 i1 r2 i2 r3 i3 : Nat) (a : List Int) (w : World) (hw : Pw w) (ha : ∀ j, (a.getD j 0).natAbs ≤ 16384)
    (hS : ∀ j (h : j < [(r0, i0), (r1, i1), (r2, i2), (r3, i3)].length), S [(r0, i0), (r1, i1), (r2, i2), (r3, i3)][j].1 (fourP a j 4).1 ∧ S [(r0, i0), (r1, i1), (r2, i2), (r3, i3)][j].2 (fourP a j 4).2) :
    Calls Tryz.prog 37 #[.agg #[.complex .f32 r0 i0, .complex .f32 r1 i1, .complex .f32 r2 i2, .complex .f32 r3 i3]] w fun e w' => ∃ ys, e = .returned (.tuple #[.agg (flts ys).toArray, .int .i64 0]) ∧ UnQ a 4 ys ∧ Below w.heap.size w w' := by
  have hg : 0 < w.heap.size := World.block_lt_of_cell? w _ (hw.at 0 1 rfl)
  have Hg := Lib.hid hg; clear hg
  have Hw := Lib.hid hw; have Ha := Lib.hid ha; have HS := Lib.hid hS
  clear hw ha hS
  have Hok : Hid (okCx [(r0, i0), (r1, i1), (r2, i2), (r3, i3)]) := by
    intro p hp
    obtain ⟨j, hj, rfl⟩ := List.getElem_of_mem hp
    obtain ⟨h1, h2⟩ := HS.out j hj
    have hb := fourP_bd a j 4 Ha.out
    exact ⟨_, _, h1, h2, by omega, by omega⟩
  go_enter Tryz.func37, Tryz.ntmps37
  have hr0 : Row (w.alloc (.cells #[.complex .f32 r0 i0, .complex .f32 r1 i1, .complex .f32 r2 i2, .complex .f32 r3 i3] 80)) w.heap.size 80 (cxs [(r0, i0), (r1, i1), (r2, i2), (r3, i3)]) := Row.new w 80 (cxs [(r0, i0), (r1, i1), (r2, i2), (r3, i3)])
  have Hr0 := Lib.hid hr0
  clear hr0
  go_wp2_with (first | (go_at_call 101; refine (checkPanel_ok _ _ _ _ _ _ _ _ _ Hok.out).mono ?_; rintro e w1 ⟨rfl, hb1⟩))
  have hr1 : Row w1 w.heap.size 80 (cxs [(r0, i0), (r1, i1), (r2, i2), (r3, i3)]) := (Hr0.out.alloc _).old hb1
  have hres : Row w1 (w.heap.size + 1) 77 (flts [0, 0, 0, 0]) := by
    have h := Row.new (w.alloc (.cells (cxs [(r0, i0), (r1, i1), (r2, i2), (r3, i3)]).toArray 80)) 77 (flts [0, 0, 0, 0])
    rw [World.size_alloc] at h
    exact h.old hb1
  have hb0 : Below w.heap.size w w1 := (((Below.refl w.heap.size w).alloc (Nat.le_refl _) _).alloc (by simp) _).trans (hb1.mono (by simp; omega))
  have hp1 : Pw w1 := Hw.out.old hb0
  have hs1 : w.heap.size + 2 ≤ w1.heap.size := by have := hb1.size; simp at this; omega
  have Hl := Lib.hid hr1; have Hres := Lib.hid hres; have Hb0 := Lib.hid hb0; have Hp1 := Lib.hid hp1
  clear hr1 hres hb0 hp1 hb1 Hr0
  go_loopw [18] (fun i wr => ∃ (n : Nat) (ys : List Nat), n ≤ 4 ∧ i = .int .i64 n ∧ Hid (UnQ a n ys) ∧ Hid (Row wr w1.heap.size 77 (flts ys)) ∧ Hid (Row wr w.heap.size 80 (cxs [(r0, i0), (r1, i1), (r2, i2), (r3, i3)])) ∧ Hid (Row wr (w.heap.size + 1) 77 (flts [0, 0, 0, 0])) ∧ Hid (Pw wr) ∧ Hid (Below w.heap.size w wr)) (fun i _ => 4 - (intOf i).toNat)
  case atStart => exact ⟨0, _, Nat.zero_le _, rfl, UnQ.start a, Row.new w1 77 (flts [0, 0, 0, 0]), Hl.out.alloc _, Hres.out.alloc _, Hp1.out.old ((Below.refl _ _).alloc (Nat.le_refl _) _), Hb0.out.alloc (by omega) _⟩
  case round =>
    obtain ⟨n, ys, hn, rfl, hq, hrow, hl, hres, hp, hb⟩ := hrel
    by_cases hlt : n < 4
    · have hl4 : Hid (wr.heap[w.heap.size]? = some (.cells #[.complex .f32 r0 i0, .complex .f32 r1 i1, .complex .f32 r2 i2, .complex .f32 r3 i3] 80 (0, 0))) := hl.out
      go_wp2_with (refine wpList_load_row rfl 80 _ rfl w.heap.size rfl 80 #[.complex .f32 r0 i0, .complex .f32 r1 i1, .complex .f32 r2 i2, .complex .f32 r3 i3] (0, 0) _ hl4.out Tryz.underlying80 rfl ?_ ?_; (rw [info147]; rfl))
      clear hl4
      go_loopw [22, 7] (fun i s wn => ∃ (k sr si : Nat), k ≤ 4 ∧ i = .int .i64 k ∧ s = .complex .f32 sr si ∧ Hid (S sr (unP a n k).1) ∧ Hid (S si (unP a n k).2) ∧ Hid (Row wn w1.heap.size 77 (flts ys)) ∧ Hid (Row wn w.heap.size 80 (cxs [(r0, i0), (r1, i1), (r2, i2), (r3, i3)])) ∧ Hid (Row wn (w.heap.size + 1) 77 (flts [0, 0, 0, 0])) ∧ Hid (Pw wn) ∧ Hid (Below w.heap.size w wn)) (fun i _ _ => 4 - (intOf i).toNat)
      case atStart => exact ⟨0, 0, 0, Nat.zero_le _, rfl, rfl, S.zero, S.zero, hrow, hl, hres, hp, hb⟩
      case round =>
        clear hl hres hp hb hrow
        obtain ⟨k, sr, si, hk, rfl, rfl, hsr, hsi, hrow, hl, hres, hp, hb⟩ := hrel
        by_cases hlt2 : k < 4
        · obtain ⟨z, hz⟩ : ∃ z, z = 3 * k * n := ⟨_, rfl⟩
          obtain ⟨y, hy⟩ : ∃ y, y = 3 * k := ⟨_, rfl⟩
          have hyi : (3 : Int) * (k : Int) = (y : Int) := by rw [hy]; omega
          have hyb : y ≤ 12 := by omega
          have hzi : (y : Int) * (n : Int) = (z : Int) := by rw [hz, ← hy, Int.natCast_mul]
          have hzb : z < 1000000 := by rw [hz, ← hy]; have := Nat.mul_le_mul (show y ≤ 12 by omega) (show n ≤ 4 by omega); omega
          obtain ⟨r, i, hx, sR, sI⟩ : ∃ r i, [(r0, i0), (r1, i1), (r2, i2), (r3, i3)][k]? = some (r, i) ∧ S r (fourP a k 4).1 ∧ S i (fourP a k 4).2 := by
            have h4 : k < [(r0, i0), (r1, i1), (r2, i2), (r3, i3)].length := hlt2
            exact ⟨_, _, List.getElem?_eq_getElem h4, HS.out k h4⟩
          obtain ⟨u1, v1, u2, v2, hm, hs, s1, s2⟩ := unfour_run a n k r i sr si z hz Ha.out hlt2 sR sI hsr.out hsi.out
          have hix := fun W => index_panel r0 i0 r1 i1 r2 i2 r3 i3 k r i hlt2 hx W
          have S1 := Lib.hid s1; have S2 := Lib.hid s2
          clear s1 s2 sR sI hx hz hy
          have Hzb := Lib.hid hzb
          go_wp2_with (first | (go_at_call 99; refine (power_any z _ hp.out Hzb.out).mono ?_; rintro e w2 ⟨rfl, hb2⟩))
          go_roundw
          case rel => exact ⟨k + 1, u2, v2, by omega, by go_num, rfl, S1, S2, hrow.out.old hb2, hl.out.old hb2, hres.out.old hb2, hp.out.old hb2, hb.out.trans (hb2.mono hb.out.size)⟩
          case measure => simp [intOf]; omega
        · obtain rfl : k = 4 := by omega
          have hs4 : S sr (4 * a.getD n 0) := by rw [← unP_all a n hlt]; exact hsr.out
          obtain ⟨y, hdiv, sy⟩ := hs4.quarter (by have := Ha.out n; omega)
          have hqr := fun w => quarter_run sr y hdiv w
          have Hst := Lib.hid (hq.out.step sy)
          have hset := Lib.hid (flts_set ys n y)
          obtain ⟨v0, hc0⟩ : ∃ v0, wr.cell? ⟨w1.heap.size, n, none⟩ = some v0 := ⟨_, hrow.out.cellAt (by have := hq.out.1; simp [flts]; omega)⟩
          have hf0 := hrow.out.free n
          clear hs4 hdiv sy
          go_wp2
          go_roundw
          case rel => exact ⟨n + 1, ys.set n y, by omega, by go_num, Hst.out, by have := hrow.out.set n (.float .f32 y); rw [hset.out] at this; exact this, hl.out.far (by simp; omega) _, hres.out.far (by simp; omega) _, hp.out.set (Nat.ne_of_gt (by have := Hg.out; show _ < w1.heap.size; omega)) _, hb.out.setCell (by simp; omega) _⟩
          case measure => simp [intOf]; omega
    · obtain rfl : n = 4 := by omega
      obtain ⟨y0, y1, y2, y3, rfl⟩ : ∃ y0 y1 y2 y3, ys = [y0, y1, y2, y3] := by
        have := hq.out.1
        match ys, this with
        | [a, b, c, d], _ => exact ⟨a, b, c, d, rfl⟩
      have hS4 : ∀ j (h : j < [y0, y1, y2, y3].length), S [y0, y1, y2, y3][j] (a.getD j 0) := by
        intro j h
        have h2 := hq.out.2 j h
        have h4 : j < 4 := h
        rwa [if_pos h4] at h2
      have HS4 := Lib.hid hS4
      have Hsam := Lib.hid (sampsI_ok (by simp) hS4 Ha.out)
      clear hS4
      have hy4 : Hid (wr.heap[w1.heap.size]? = some (.cells #[.float .f32 y0, .float .f32 y1, .float .f32 y2, .float .f32 y3] 77 (0, 0))) := hrow.out
      go_wp2_with (refine wpList_load_row rfl 77 _ rfl w1.heap.size rfl 77 #[.float .f32 y0, .float .f32 y1, .float .f32 y2, .float .f32 y3] (0, 0) _ hy4.out Tryz.underlying77 rfl ?_ ?_; (rw [info150]; rfl))
      refine (four_ok y0 y1 y2 y3 a _ hp.out Ha.out HS4.out Hsam.out).mono ?_
      rintro e w2 ⟨qs, rfl, hpa, hb2⟩
      obtain ⟨c0, d0, c1, d1, c2, d2, c3, d3, rfl⟩ : ∃ c0 d0 c1 d1 c2 d2 c3 d3, qs = [(c0, d0), (c1, d1), (c2, d2), (c3, d3)] := by
        have := hpa.1
        match qs, this with
        | [(a, b), (c, d), (e, f), (g, h)], _ => exact ⟨a, b, c, d, e, f, g, h, rfl⟩
      have hqe : all2 cEq (cxs [(c0, d0), (c1, d1), (c2, d2), (c3, d3)]) (cxs [(r0, i0), (r1, i1), (r2, i2), (r3, i3)]) = true := by
        refine all2_cEq _ _ (by rw [hpa.1]; rfl) (fun j h1 h2 => ?_)
        obtain ⟨a1, a2⟩ := hpa.2 j h1
        obtain ⟨b1, b2⟩ := HS.out j h2
        have e : PaN a 4 0 j = fourP a j 4 := by
          unfold PaN
          have h4 : j < 4 := h2
          rw [if_pos h4]
        rw [e] at a1 a2
        exact ⟨_, _, a1, b1, a2, b2⟩
      obtain ⟨us, hus⟩ : ∃ us, us = cxs [(c0, d0), (c1, d1), (c2, d2), (c3, d3)] := ⟨_, rfl⟩
      obtain ⟨vs, hvs⟩ : ∃ vs, vs = cxs [(r0, i0), (r1, i1), (r2, i2), (r3, i3)] := ⟨_, rfl⟩
      have hneq := fun w => neqCx [(c0, d0), (c1, d1), (c2, d2), (c3, d3)] [(r0, i0), (r1, i1), (r2, i2), (r3, i3)] hpa.1 rfl hqe w
      have hl2 := hl.out.old hb2
      have hres2 := hres.out.old hb2
      have hy2 : Row w2 w1.heap.size 77 (flts [y0, y1, y2, y3]) := Row.old hy4.out hb2
      have hu4 : us.length = 4 := by rw [hus]; rfl
      have hu1 : ∀ v ∈ us, v.oneCell' = true := by rw [hus]; exact cxs_one _
      have hv4 : vs.length = 4 := by rw [hvs]; rfl
      have hneq2 : ∀ w, (binOp .neq 80 (.agg #[.complex .f32 c0 d0, .complex .f32 c1 d1, .complex .f32 c2 d2, .complex .f32 c3 d3]) (.agg #[.complex .f32 r0 i0, .complex .f32 r1 i1, .complex .f32 r2 i2, .complex .f32 r3 i3])).run Tryz.prog w = .ok (.bool false) w := hneq
      clear hneq
      rw [← hvs] at hl2
      rw [← hus]
      have hbig : w.heap.size + 2 ≤ w2.heap.size ∧ w1.heap.size < w2.heap.size := by
        have h1 := hy2.lt; omega
      have Hl2 : Hid (Row ((w2.alloc (.cells (cxs [(0, 0), (0, 0), (0, 0), (0, 0)]).toArray 80)).setRow w2.heap.size us.toArray) w.heap.size 80 vs) := (hl2.alloc _).farRow (by omega) _
      have Hnew : Hid (Row (w2.alloc (.cells (cxs [(0, 0), (0, 0), (0, 0), (0, 0)]).toArray 80)) w2.heap.size 80 (cxs [(0, 0), (0, 0), (0, 0), (0, 0)])) := Row.new w2 80 (cxs [(0, 0), (0, 0), (0, 0), (0, 0)])
      have Hu : Hid (Row ((w2.alloc (.cells (cxs [(0, 0), (0, 0), (0, 0), (0, 0)]).toArray 80)).setRow w2.heap.size us.toArray) w2.heap.size 80 us) := Hnew.out.setRow us
      have Hres2 : Hid (Row ((w2.alloc (.cells (cxs [(0, 0), (0, 0), (0, 0), (0, 0)]).toArray 80)).setRow w2.heap.size us.toArray) (w.heap.size + 1) 77 (flts [0, 0, 0, 0])) := (hres2.alloc _).farRow (by omega) _
      have Hy2 : Hid (Row ((w2.alloc (.cells (cxs [(0, 0), (0, 0), (0, 0), (0, 0)]).toArray 80)).setRow w2.heap.size us.toArray) w1.heap.size 77 (flts [y0, y1, y2, y3])) := (hy2.alloc _).farRow (by omega) _
      have Hbb : Hid (Below w.heap.size w ((w2.alloc (.cells (cxs [(0, 0), (0, 0), (0, 0), (0, 0)]).toArray 80)).setRow w2.heap.size us.toArray)) := Below.setRow ((hb.out.trans (hb2.mono hb.out.size)).alloc (by omega) _) (by omega) _
      have Hcs : Hid (us = [.complex .f32 c0 d0, .complex .f32 c1 d1, .complex .f32 c2 d2, .complex .f32 c3 d3] ∧ vs = [.complex .f32 r0 i0, .complex .f32 r1 i1, .complex .f32 r2 i2, .complex .f32 r3 i3]) := ⟨hus, hvs⟩
      have Hu4 := Lib.hid hu4; have Hu1 := Lib.hid hu1; have Hv4 := Lib.hid hv4
      clear hqe hus hvs hl2 hres2 hy2 hu4 hu1 hv4 hpa
      go_wp2_with (refine wpList_store_row rfl 80 _ _ rfl w2.heap.size us.toArray rfl rfl 80 _ Hnew.out ?_ ?_ ?_ (gen_world (w2.heap.size) w.heap.size (w.heap.size + 1) w1.heap.size 80 77 us vs (flts [0, 0, 0, 0]) (flts [y0, y1, y2, y3]) Hu.out Hl2.out Hres2.out Hy2.out Hbb.out ?_); (rw [info147]; simp [Hu4.out]); (simp [Hu4.out, cxs]); (simpa using Hu1.out))
      intro w3 k0 k1 k2 k3 kb
      rw [Hcs.out.1] at k0 ⊢
      rw [Hcs.out.2] at k1
      have a0 := k0.cellAt (j := 0) (by simp); have a1 := k0.cellAt (j := 1) (by simp); have a2 := k0.cellAt (j := 2) (by simp); have a3 := k0.cellAt (j := 3) (by simp)
      have b0 := k1.cellAt (j := 0) (by simp); have b1 := k1.cellAt (j := 1) (by simp); have b2 := k1.cellAt (j := 2) (by simp); have b3 := k1.cellAt (j := 3) (by simp)
      simp only [List.getElem_cons_zero, List.getElem_cons_succ] at a0 a1 a2 a3 b0 b1 b2 b3
      have K2 := Lib.hid k2; have K3 := Lib.hid k3; have Kb := Lib.hid kb
      clear k0 k1 k2 k3 kb
      go_wp2_with (first
        | (refine wpList_load_row rfl 77 _ rfl w1.heap.size rfl 77 (flts [y0, y1, y2, y3]).toArray (0, 0) _ K3.out Tryz.underlying77 rfl ?_ ?_; (rw [info150]; rfl))
        | (refine wpList_store_row rfl 77 _ _ rfl (w.heap.size + 1) (flts [y0, y1, y2, y3]).toArray rfl rfl 77 _ K2.out ?_ ?_ ?_ ?_; (rw [info150]; rfl); (rfl); (simp [flts, Value.oneCell'])))
      refine bodyPost_ret (results_row_tmp rfl _ _ (w.heap.size + 1) 77 (flts [y0, y1, y2, y3]).toArray (0, 0) _ rfl (K2.out.setRow (flts [y0, y1, y2, y3])) Tryz.underlying77 rfl ?_) rfl ?_
      · rw [info150]; rfl
      · exact ⟨_, rfl, hq.out, Below.setRow Kb.out (by simp) _⟩
end Go.Proofs.YtdglifjhkjdogaaGreatDoor
