/- Contracts: the packets that are received. -/
import Derived.Test.YtjgofnbfpoephaaGreatDoorM11
import Derived.Test.YtjgofnbfpoephaaGreatDoorM07
import Derived.Test.YtjgofnbfpoephaaGreatDoorM04
import Derived.Deep.LoopGhost
import Derived.Deep.DeepCutAuto
import Derived.Outline
namespace Go.Proofs.YtjgofnbfpoephaaGreatDoor
set_option linter.all false
open Go.RowKit Go.Fl
set_option linter.unusedVariables false
set_option linter.unusedSimpArgs false

/-- what is received, from an index on, with fuel -/
def recvGo (key : List Int) (bs : List UInt8) : Nat → Nat → List (List Value) → List (Int × Int) → List (List Value) × List (Int × Int)
  | 0, _, ps, sp => (ps, sp)
  | f + 1, i, ps, sp => if i < bs.length then (if begE key (bs.drop i) then recvGo key bs f (i + 29) (ps ++ [begC key (bs.drop i)]) sp else recvGo key bs f (i + 1) ps (widL sp i)) else (ps, sp)
def recvL (key : List Int) (bs : List UInt8) : List (List Value) × List (Int × Int) := recvGo key bs bs.length 0 [] []

theorem begC_form (key : List Int) (bs : List UInt8) : ∃ (st ct ln : Int) (x0 x1 x2 x3 x4 x5 x6 x7 : Nat), begC key bs = pkC st ct ln [x0, x1, x2, x3, x4, x5, x6, x7] := by
  unfold begC
  split
  · exact ⟨0, 0, 0, 0, 0, 0, 0, 0, 0, 0, 0, rfl⟩
  · unfold decC
    split
    · obtain ⟨x0, x1, x2, x3, x4, x5, x6, x7, hx8⟩ : ∃ x0 x1 x2 x3 x4 x5 x6 x7, xsOf (bs.take 29) 8 = [x0, x1, x2, x3, x4, x5, x6, x7] := ⟨_, _, _, _, _, _, _, _, rfl⟩
      exact ⟨_, _, _, x0, x1, x2, x3, x4, x5, x6, x7, by rw [hx8]⟩
    · exact ⟨0, 0, 0, 0, 0, 0, 0, 0, 0, 0, 0, rfl⟩
theorem begE_len {key : List Int} {bs : List UInt8} (h : begE key bs = true) : 29 ≤ bs.length := by
  unfold begE at h
  split at h
  · cases h
  · omega
theorem info54w : (Tryz.prog.info? 54).map (fun i => (i.zero, i.size, i.bytes)) = some (some (.agg #[.int .i64 0, .int .i64 0, .int .i64 0, .float .f32 0, .float .f32 0, .float .f32 0, .float .f32 0, .float .f32 0, .float .f32 0, .float .f32 0, .float .f32 0]), 11, 56) := by kernel_rfl
theorem Rd.drop {w : World} {b off : Nat} {xs : List Value} (h : Rd w (some ⟨b, off, none⟩) xs) (k : Nat) : Rd w (some ⟨b, off + k, none⟩) (xs.drop k) := by
  intro j v hv
  rw [List.getElem?_drop] at hv
  obtain ⟨b', off', h1, h2⟩ := h (k + j) v hv
  cases h1
  exact ⟨b, off + k, rfl, by rw [Nat.add_assoc]; exact h2⟩
theorem news11 (w : World) (vs : List Value) (t : TypeId) (a : Addr) (ha : a = ⟨w.heap.size, 0, none⟩) : ∀ j x, vs[j]? = some x → (w.alloc (.cells vs.toArray t)).cell? (a.add j) = some x := by
  subst ha
  intro j x hx
  have h := (Row.new w t vs).cell j
  rw [hx] at h
  by_cases hj : j = 0
  · subst hj; simpa [Addr.add] using h
  · simpa [Addr.add, hj] using h
/-- the world after a call, where cells and a fresh block stand -/
theorem keepRe {w1 W W' : World} {kb : Nat} {k0 k1 k2 k3 k4 k5 k6 k7 : Int} (h : W.cell? ⟨kb, 0, none⟩ = some (.int .u8 k0) ∧ W.cell? ⟨kb, 1, none⟩ = some (.int .u8 k1) ∧ W.cell? ⟨kb, 2, none⟩ = some (.int .u8 k2) ∧ W.cell? ⟨kb, 3, none⟩ = some (.int .u8 k3) ∧ W.cell? ⟨kb, 4, none⟩ = some (.int .u8 k4) ∧ W.cell? ⟨kb, 5, none⟩ = some (.int .u8 k5) ∧ W.cell? ⟨kb, 6, none⟩ = some (.int .u8 k6) ∧ W.cell? ⟨kb, 7, none⟩ = some (.int .u8 k7) ∧ Below w1.heap.size w1 W) (hb : Below W.heap.size W W') : W'.cell? ⟨kb, 0, none⟩ = some (.int .u8 k0) ∧ W'.cell? ⟨kb, 1, none⟩ = some (.int .u8 k1) ∧ W'.cell? ⟨kb, 2, none⟩ = some (.int .u8 k2) ∧ W'.cell? ⟨kb, 3, none⟩ = some (.int .u8 k3) ∧ W'.cell? ⟨kb, 4, none⟩ = some (.int .u8 k4) ∧ W'.cell? ⟨kb, 5, none⟩ = some (.int .u8 k5) ∧ W'.cell? ⟨kb, 6, none⟩ = some (.int .u8 k6) ∧ W'.cell? ⟨kb, 7, none⟩ = some (.int .u8 k7) ∧ Below w1.heap.size w1 W' :=
  ⟨keepC (h.1) hb, keepC (h.2.1) hb, keepC (h.2.2.1) hb, keepC (h.2.2.2.1) hb, keepC (h.2.2.2.2.1) hb, keepC (h.2.2.2.2.2.1) hb, keepC (h.2.2.2.2.2.2.1) hb, keepC (h.2.2.2.2.2.2.2.1) hb, (h.2.2.2.2.2.2.2.2).trans (hb.mono (h.2.2.2.2.2.2.2.2).size)⟩
theorem lastRe {w1 W : World} {kb : Nat} {k0 k1 k2 k3 k4 k5 k6 k7 : Int} (h : W.cell? ⟨kb, 0, none⟩ = some (.int .u8 k0) ∧ W.cell? ⟨kb, 1, none⟩ = some (.int .u8 k1) ∧ W.cell? ⟨kb, 2, none⟩ = some (.int .u8 k2) ∧ W.cell? ⟨kb, 3, none⟩ = some (.int .u8 k3) ∧ W.cell? ⟨kb, 4, none⟩ = some (.int .u8 k4) ∧ W.cell? ⟨kb, 5, none⟩ = some (.int .u8 k5) ∧ W.cell? ⟨kb, 6, none⟩ = some (.int .u8 k6) ∧ W.cell? ⟨kb, 7, none⟩ = some (.int .u8 k7) ∧ Below w1.heap.size w1 W) : Below w1.heap.size w1 W := h.2.2.2.2.2.2.2.2

theorem owns_below {w w' : World} {B : Nat} {e : TypeId} {s n : Nat} {v : Value} {xs : List Value} (h : w.ownsRow B e s v n xs) (hb : Below w.heap.size w w') : w'.ownsRow B e s v n xs := by
  refine ⟨h.1, ?_⟩
  rcases h.2 with h2 | ⟨g, cap, cur, h1, h2, h3, h4⟩
  · exact .inl h2
  · exact .inr ⟨g, cap, cur, h1, h2, (hb.block g (Array.getElem?_eq_some_iff.1 h3).1).trans h3, h4⟩
theorem dis_symm {a b : Option Nat} (h : a = none ∨ a ≠ b) : b = none ∨ b ≠ a := by
  cases b with
  | none => exact .inl rfl
  | some j =>
    refine .inr ?_
    rcases h with h | h
    · rw [h]; exact fun h => by cases h
    · exact fun h2 => h h2.symm
theorem widL_le (l : List (Int × Int)) (i : Int) : (widL l i).length ≤ l.length + 1 := by
  unfold widL
  split
  · split <;> simp <;> omega
  · simp
/-- a relation of what a round has, behind a name -/
def RecvI (w : World) (key : List Int) (bs : List UInt8) (fuel : Nat) (v u : Value) (i : Nat) (wr : World) : Prop :=
  ∃ ps sp, ps.length ≤ i ∧ sp.length ≤ i ∧ bs.length ≤ i + fuel ∧ recvGo key bs fuel i ps sp = recvL key bs ∧
    wr.ownsRow (w.heap.size + 1) 54 11 v ps.length ps.flatten ∧ wr.ownsRow (w.heap.size + 1) 94 2 u sp.length (spanC sp) ∧
    (v.ownBlock = none ∨ v.ownBlock ≠ u.ownBlock) ∧ Row wr w.heap.size 47 (u8s key) ∧ Below w.heap.size w wr

set_option maxRecDepth 100000 in
set_option maxHeartbeats 2000000 in
theorem received_ok (k0 k1 k2 k3 k4 k5 k6 k7 : Int) (A : Option Addr) (n c : Nat) (bs : List UInt8) (w : World) (hA : Rd w A (byts bs)) (hn : n = bs.length) (hc : n ≤ c) (hm : bs.length ≤ 29696) (hkeys : ∀ j (h : j < 8), isByte ([k0, k1, k2, k3, k4, k5, k6, k7][j])) :
    Calls Tryz.prog 37 #[.agg #[.int .u8 k0, .int .u8 k1, .int .u8 k2, .int .u8 k3, .int .u8 k4, .int .u8 k5, .int .u8 k6, .int .u8 k7], .slice A n c] w
      fun e w' => ∃ v u, e = .returned (.tuple #[v, u, .int .i64 0]) ∧ w'.ownsRow (w.heap.size + 1) 54 11 v (recvL [k0, k1, k2, k3, k4, k5, k6, k7] bs).1.length (recvL [k0, k1, k2, k3, k4, k5, k6, k7] bs).1.flatten ∧ w'.ownsRow (w.heap.size + 1) 94 2 u (recvL [k0, k1, k2, k3, k4, k5, k6, k7] bs).2.length (spanC (recvL [k0, k1, k2, k3, k4, k5, k6, k7] bs).2) ∧ Below w.heap.size w w' := by
  subst hn
  have Hk := Lib.hid hkeys
  have HA := Lib.hid hA
  clear hkeys hA
  have R0 := Lib.hid (Row.new w 47 (u8s [k0, k1, k2, k3, k4, k5, k6, k7]))
  obtain ⟨ip, hip0, hip1, hip2, hip3⟩ := info_parts info54w
  go_enter Tryz.func37, Tryz.ntmps37
  go_wp2
  go_loopg [7, 8, 9] bs.length (fun g v u i wr => ∃ k : Nat, k ≤ bs.length ∧ i = .int .i64 k ∧ RecvI w [k0, k1, k2, k3, k4, k5, k6, k7] bs g v u k wr)
  case atStart =>
    refine ⟨0, Nat.zero_le _, rfl, [], [], Nat.le_refl _, Nat.le_refl _, by omega, rfl, World.ownsRow_nil _ _ _ _, World.ownsRow_nil _ _ _ _, .inl rfl, R0.out, (Below.refl _ _).alloc (Nat.le_refl _) _⟩
  case round =>
    obtain ⟨k, hk, rfl, HI⟩ := hrel
    have HI := Lib.hid HI
    by_cases hlt : k < bs.length
    · obtain ⟨b, off, hAb, _⟩ := Rd.byte HA.out hlt
      subst hAb
      obtain ⟨ps, sp, hps, hsp, hfu, hgo, hv, hu, hd, hkey, hB⟩ := HI.out
      have hsz := hkey.lt
      have hRd : Hid (∀ W, Below wr.heap.size wr W → Rd W (some ⟨b, off + k, none⟩) (byts (bs.drop k))) := fun W hW => by
        have := ((HA.out.below (hB.trans (hW.mono hB.size))).drop k); simpa [byts] using this
      obtain ⟨st, ct, ln, x0, x1, x2, x3, x4, x5, x6, x7, hform⟩ := begC_form [k0, k1, k2, k3, k4, k5, k6, k7] (bs.drop k)
      obtain ⟨bg, hbg⟩ : ∃ bg, bg = begE [k0, k1, k2, k3, k4, k5, k6, k7] (bs.drop k) := ⟨_, rfl⟩
      have Hcall : Hid (∀ W, Below wr.heap.size wr W → Calls Tryz.prog 113 #[.agg #[.int .u8 k0, .int .u8 k1, .int .u8 k2, .int .u8 k3, .int .u8 k4, .int .u8 k5, .int .u8 k6, .int .u8 k7], .slice (some ⟨b, off + k, none⟩) (bs.length - k) (c - k)] W
          fun e w' => e = .returned (.tuple #[.agg #[.int .i64 st, .int .i64 ct, .int .i64 ln, .float .f32 x0, .float .f32 x1, .float .f32 x2, .float .f32 x3, .float .f32 x4, .float .f32 x5, .float .f32 x6, .float .f32 x7], .bool bg]) ∧ Below W.heap.size W w') := fun W hW =>
        (beginning_any k0 k1 k2 k3 k4 k5 k6 k7 (some ⟨b, off + k, none⟩) (bs.length - k) (c - k) (bs.drop k) W (hRd.out W hW) (by simp) (by simp; omega) Hk.out).mono fun e w' h => ⟨by rw [h.1, hform, hbg]; rfl, h.2⟩
      have hsl := fun W => slice_from (P := Tryz.prog) 59 (by kernel_rfl) (fun _ => by kernel_rfl) b off bs.length c (k : Int) (by omega) (by omega) hc W
      simp only [Int.toNat_natCast] at hsl
      have S0 : Hid (wr.cell? ⟨w.heap.size, 0, none⟩ = some (.int .u8 k0) ∧ wr.cell? ⟨w.heap.size, 1, none⟩ = some (.int .u8 k1) ∧ wr.cell? ⟨w.heap.size, 2, none⟩ = some (.int .u8 k2) ∧ wr.cell? ⟨w.heap.size, 3, none⟩ = some (.int .u8 k3) ∧ wr.cell? ⟨w.heap.size, 4, none⟩ = some (.int .u8 k4) ∧ wr.cell? ⟨w.heap.size, 5, none⟩ = some (.int .u8 k5) ∧ wr.cell? ⟨w.heap.size, 6, none⟩ = some (.int .u8 k6) ∧ wr.cell? ⟨w.heap.size, 7, none⟩ = some (.int .u8 k7) ∧ Below wr.heap.size wr wr) :=
        ⟨by rw [hkey.cell]; rfl, by rw [hkey.cell]; rfl, by rw [hkey.cell]; rfl, by rw [hkey.cell]; rfl, by rw [hkey.cell]; rfl, by rw [hkey.cell]; rfl, by rw [hkey.cell]; rfl, by rw [hkey.cell]; rfl, Below.refl _ _⟩
      have Hps := Lib.hid hps; have Hsp := Lib.hid hsp; have Hfu := Lib.hid hfu; have Hgo := Lib.hid hgo; have Hv := Lib.hid hv; have Hu := Lib.hid hu; have Hd := Lib.hid hd; have Hkey := Lib.hid hkey; have HB := Lib.hid hB; have Hform := Lib.hid hform; have Hbg := Lib.hid hbg; have Hsz := Lib.hid hsz
      clear hps hsp hfu hgo hv hu hd hkey hB hform hbg hsz HI
      go_upto_region 7 with fail
      go_cut [10, 11] (fun s10 s11 wx => ∃ g : Nat, s10 = .pointer (some ⟨g, 0, none⟩) ∧ s11 = .bool bg ∧ Row wx g 54 (pkC st ct ln [x0, x1, x2, x3, x4, x5, x6, x7]) ∧ wr.heap.size ≤ g ∧ Below wr.heap.size wr wx)
      case first =>
        have q0 := S0.out.1
        have q1 := S0.out.2.1
        have q2 := S0.out.2.2.1
        have q3 := S0.out.2.2.2.1
        have q4 := S0.out.2.2.2.2.1
        have q5 := S0.out.2.2.2.2.2.1
        have q6 := S0.out.2.2.2.2.2.2.1
        have q7 := S0.out.2.2.2.2.2.2.2.1
        have hszq := Hsz.out
        go_region_law (first | (go_simp; go_at_call 113; refine (Hcall.out _ ?_).mono ?_; (first | exact Below.drew (Below.refl _ _) | exact (Below.drew (Below.refl _ _)).alloc (Nat.le_refl _) _ | exact ((Below.refl _ _).alloc (Nat.le_refl _) _).drew); rintro e w2 ⟨rfl, hb2⟩; try (have hz : Row w2 wr.heap.size 54 zero11 := Row.old (w := (wr.alloc (.cells zero11.toArray 54)).drew) (Row.new wr 54 zero11) hb2; have z0 : w2.cell? ⟨wr.heap.size, 0, none⟩ = some (.int .i64 0) := (hz.cell 0); have z1 : w2.cell? ⟨wr.heap.size, 1, none⟩ = some (.int .i64 0) := (hz.cell 1); have z2 : w2.cell? ⟨wr.heap.size, 2, none⟩ = some (.int .i64 0) := (hz.cell 2); have z3 : w2.cell? ⟨wr.heap.size, 3, none⟩ = some (.float .f32 0) := (hz.cell 3); have z4 : w2.cell? ⟨wr.heap.size, 4, none⟩ = some (.float .f32 0) := (hz.cell 4); have z5 : w2.cell? ⟨wr.heap.size, 5, none⟩ = some (.float .f32 0) := (hz.cell 5); have z6 : w2.cell? ⟨wr.heap.size, 6, none⟩ = some (.float .f32 0) := (hz.cell 6); have z7 : w2.cell? ⟨wr.heap.size, 7, none⟩ = some (.float .f32 0) := (hz.cell 7); have z8 : w2.cell? ⟨wr.heap.size, 8, none⟩ = some (.float .f32 0) := (hz.cell 8); have z9 : w2.cell? ⟨wr.heap.size, 9, none⟩ = some (.float .f32 0) := (hz.cell 9); have z10 : w2.cell? ⟨wr.heap.size, 10, none⟩ = some (.float .f32 0) := (hz.cell 10); have hyf : ∀ j, w2.frozen? ⟨wr.heap.size, j, none⟩ = false := fun j => hz.free j; have hz := Lib.hid hz)))
        all_goals go_wp2_with fail
        all_goals go_meet
        all_goals first
          | (have hz0 := hz.out; have hbB : Below wr.heap.size wr w2 := (((Below.refl wr.heap.size wr).alloc (Nat.le_refl _) (.cells zero11.toArray 54)).drew).trans (hb2.mono (by simp))
             refine ⟨_, rfl, rfl, (((((((((((hz0.set 0 _).set 1 _).set 2 _).set 3 _).set 4 _).set 5 _).set 6 _).set 7 _).set 8 _).set 9 _).set 10 _), Nat.le_refl _, ?_⟩
             exact (((((((((((hbB.setCell (p := ⟨wr.heap.size, 0, none⟩) (Nat.le_refl _) _).setCell (p := ⟨wr.heap.size, 1, none⟩) (Nat.le_refl _) _).setCell (p := ⟨wr.heap.size, 2, none⟩) (Nat.le_refl _) _).setCell (p := ⟨wr.heap.size, 3, none⟩) (Nat.le_refl _) _).setCell (p := ⟨wr.heap.size, 4, none⟩) (Nat.le_refl _) _).setCell (p := ⟨wr.heap.size, 5, none⟩) (Nat.le_refl _) _).setCell (p := ⟨wr.heap.size, 6, none⟩) (Nat.le_refl _) _).setCell (p := ⟨wr.heap.size, 7, none⟩) (Nat.le_refl _) _).setCell (p := ⟨wr.heap.size, 8, none⟩) (Nat.le_refl _) _).setCell (p := ⟨wr.heap.size, 9, none⟩) (Nat.le_refl _) _).setCell (p := ⟨wr.heap.size, 10, none⟩) (Nat.le_refl _) _))
          | exact ⟨_, rfl, rfl, Row.new w2 _ _, hb2.size, ((Below.drew (Below.refl _ _)).trans hb2).alloc hb2.size _⟩
      case rest =>
        obtain ⟨g, rfl, rfl, hrow, hg, hbw⟩ := hcut
        obtain ⟨f, rfl⟩ : ∃ f, gk = f + 1 := ⟨gk - 1, by have := Hfu.out; omega⟩
        have HRow := Lib.hid hrow
        have HBw := Lib.hid (HB.out.trans (hbw.mono HB.out.size))
        have Hv' := Lib.hid (owns_below Hv.out hbw)
        have Hu' := Lib.hid (owns_below Hu.out hbw)
        have Hkey' := Lib.hid (Hkey.out.old hbw)
        have hszc : w.heap.size + 1 ≤ wc.heap.size := Hkey'.out.lt
        have Hszc := Lib.hid hszc
        clear hrow hbw hszc Hcall hRd hg
        cases bg
        · have Hgo2 : Hid (recvGo [k0, k1, k2, k3, k4, k5, k6, k7] bs f (k + 1) ps (widL sp k) = recvL [k0, k1, k2, k3, k4, k5, k6, k7] bs) := by
            unfold Hid; rw [← Hgo.out, recvGo, if_pos hlt, ← Hbg.out]; rfl
          have hl6 : sp.length ≤ 1000000 := by have := Hsp.out; omega
          have hi9 : (0 : Int) ≤ (k : Int) ∧ (k : Int) ≤ 1000000000 := by omega
          have Hl6 := Lib.hid hl6; have Hi9 := Lib.hid hi9
          clear hl6 hi9
          go_wp2_with fail
          refine (widened_any (w.heap.size + 1) u8 sp (k : Int) _ Hu'.out Hszc.out Hl6.out Hi9.out).mono ?_
          rintro e w3 ⟨u', rfl, ho, hst⟩
          have Hk1 := Lib.hid (hst.keep Hv'.out Hd.out)
          have Hb1 := Lib.hid (hst.below Hu'.out Hszc.out)
          have Ho := Lib.hid ho
          have hwl := widL_le sp k
          have Hwl := Lib.hid hwl
          clear ho hst hwl
          go_wp2
          go_roundg f
          case measure => omega
          case rel =>
            exact ⟨k + 1, by omega, by go_num, ps, widL sp k, by have := Hps.out; omega, by have := Hwl.out; have := Hsp.out; omega, by have := Hfu.out; omega, Hgo2.out, Hk1.out.1, Ho.out, Hk1.out.2, Hkey'.out.below Hb1.out (by omega), HBw.out.trans (Hb1.out.mono (by omega))⟩
        · have h29 : k + 29 ≤ bs.length := by have := begE_len Hbg.out.symm; simp at this; omega
          have Hgo2 : Hid (recvGo [k0, k1, k2, k3, k4, k5, k6, k7] bs f (k + 29) (ps ++ [pkC st ct ln [x0, x1, x2, x3, x4, x5, x6, x7]]) sp = recvL [k0, k1, k2, k3, k4, k5, k6, k7] bs) := by
            unfold Hid; rw [← Hgo.out, recvGo, if_pos hlt, ← Hbg.out, Hform.out]; rfl
          have hd2 : u8.ownBlock = none ∨ u8.ownBlock ≠ u7.ownBlock := dis_symm Hd.out
          have Hd2 := Lib.hid hd2
          have hpl : ps.length ≤ 29696 := by have := Hps.out; omega
          have Hpl := Lib.hid hpl
          clear hd2 hpl
          go_wp2_with (first
            | (refine wpList_load_row rfl 54 _ rfl g rfl 54 #[.int .i64 st, .int .i64 ct, .int .i64 ln, .float .f32 x0, .float .f32 x1, .float .f32 x2, .float .f32 x3, .float .f32 x4, .float .f32 x5, .float .f32 x6, .float .f32 x7] (0, 0) _ HRow.out Tryz.underlying54 rfl ?_ ?_; (rw [info54]; rfl))
            | (at_builtin; refine wpList_append_own_at _ rfl _ _ 67 rfl (w.heap.size + 1) 54 ip (.agg #[.int .i64 0, .int .i64 0, .int .i64 0, .float .f32 0, .float .f32 0, .float .f32 0, .float .f32 0, .float .f32 0, .float .f32 0, .float .f32 0, .float .f32 0]) 11 56 Tryz.underlying67 hip0 hip1 hip2 hip3 rfl (by decide) _ ps.length ps.flatten rfl (Hv'.out.alloc _) ⟨wc.heap.size, 0, none⟩ 1 1 [.int .i64 st, .int .i64 ct, .int .i64 ln, .float .f32 x0, .float .f32 x1, .float .f32 x2, .float .f32 x3, .float .f32 x4, .float .f32 x5, .float .f32 x6, .float .f32 x7] rfl rfl (news11 _ _ _ _ rfl) ?c2 ?c3 ?c4 ?c5 ?_))
          case c2 => simp [Value.oneCell']
          case c3 => have := Hpl.out; unfold maxLen; omega
          case c4 => have := Hpl.out; omega
          case c5 => have := Hszc.out; simp; omega
          intro v' w3 ho hg3 _ hat
          have hst : Step wc w3 u7 v' := Step.of_alloc hg3 (by rw [World.size_alloc]; exact hat)
          have Hk1 := Lib.hid (hst.keep Hu'.out Hd2.out)
          have Hb1 := Lib.hid (hst.below Hv'.out Hszc.out)
          have Ho : Hid (w3.ownsRow (w.heap.size + 1) 54 11 v' (ps ++ [pkC st ct ln [x0, x1, x2, x3, x4, x5, x6, x7]]).length (ps ++ [pkC st ct ln [x0, x1, x2, x3, x4, x5, x6, x7]]).flatten) := by
            unfold Hid; simpa [pkC, flts] using ho
          clear ho hst hat hg3
          go_wp2
          go_roundg f
          case measure => omega
          case rel =>
            exact ⟨k + 29, by omega, by go_num, ps ++ [pkC st ct ln [x0, x1, x2, x3, x4, x5, x6, x7]], sp, by have := Hps.out; simp; omega, by have := Hsp.out; omega, by have := Hfu.out; omega, Hgo2.out, Ho.out, Hk1.out.1, dis_symm Hk1.out.2, Hkey'.out.below Hb1.out (by omega), HBw.out.trans (Hb1.out.mono (by omega))⟩
    · obtain ⟨ps, sp, hps, hsp, hfu, hgo, hv, hu, hd, hkey, hB⟩ := HI.out
      have hend : recvGo [k0, k1, k2, k3, k4, k5, k6, k7] bs gk k ps sp = (ps, sp) := by
        cases gk with
        | zero => rfl
        | succ f => rw [recvGo, if_neg hlt]
      have Hend : Hid (recvL [k0, k1, k2, k3, k4, k5, k6, k7] bs = (ps, sp)) := by unfold Hid; rw [← hgo, hend]
      have Hv := Lib.hid hv; have Hu := Lib.hid hu; have HB := Lib.hid hB
      clear hps hsp hfu hgo hv hu hd hkey hB hend
      go_wp2
      go_ret3
      exact ⟨_, _, rfl, by rw [Hend.out]; exact Hv.out, by rw [Hend.out]; exact Hu.out, HB.out⟩
end Go.Proofs.YtjgofnbfpoephaaGreatDoor
