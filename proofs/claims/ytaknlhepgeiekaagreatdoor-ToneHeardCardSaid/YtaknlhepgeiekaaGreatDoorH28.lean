import Derived.Laws.EntriesVeiled
import Derived.Shelf.Abstract
import Derived.Test.YtaknlhepgeiekaaGreatDoorH18
namespace Go.Proofs.YtaknlhepgeiekaaGreatDoor
set_option linter.all false
open Go.RowKit Go.Fl
set_option maxRecDepth 100000
set_option maxHeartbeats 4000000
def sgn (s : Sg) : Int := cmpI (nS s) 0
theorem sgn_cases (s : Sg) : sgn s = -1 ∨ sgn s = 0 ∨ sgn s = 1 := by unfold sgn cmpI; split; exact .inl rfl; split; exact .inr (.inr rfl); exact .inr (.inl rfl)
theorem crossings1_any (s : Sg) (gF : Nat) (w : World) (h : SigG s.a s.b s.c s.d s.x s.y) (hF : Row w gF 154 [.func (.func 73) #[] #[]]) : Calls Tryz.prog 75 #[.agg #[.int .i64 s.a, .int .i64 s.b, .int .i64 s.c, .int .i64 s.d, .int .i64 s.x, .int .i64 s.y], .pointer (some ⟨gF, 0, none⟩)] w fun e w' => e = .returned (.int .i64 (sgn s)) ∧ Below w.heap.size w w' := by
 have hb := sg_bd h
 have HN : Hid (∀ W, Calls Tryz.prog 61 #[.agg #[.int .i64 s.a, .int .i64 s.b, .int .i64 s.c, .int .i64 s.d, .int .i64 s.x, .int .i64 s.y]] W fun e w' => e = .returned (.agg #[.int .i64 (nS s), .int .i64 (qS s)]) ∧ Below W.heap.size W w') := fun W => needle_any s.a s.b s.c s.d s.x s.y W h.g1 h.g2 h.g3
 have HI : Hid (∀ W, Calls Tryz.prog 76 #[.int .i64 0] W fun e w' => e = .returned (.agg #[.int .i64 0, .int .i64 1]) ∧ Below W.heap.size W w') := fun W => integer_anyT 0 W
 have HC : Hid (∀ W, Calls Tryz.prog 73 #[.agg #[.int .i64 (nS s), .int .i64 (qS s)], .agg #[.int .i64 0, .int .i64 1]] W fun e w' => e = .returned (.int .i64 (sgn s)) ∧ Below W.heap.size W w') := fun W => by
  have h := compareQ_any (nS s) (qS s) 0 1 W (by rw [Int.mul_one]; omega) (by rw [Int.zero_mul]; decide)
  rw [Int.mul_one, Int.zero_mul] at h
  exact h
 obtain ⟨n, hn⟩ : ∃ n, n = nS s := ⟨_, rfl⟩
 obtain ⟨q, hq⟩ : ∃ q, q = qS s := ⟨_, rfl⟩
 obtain ⟨sg, hsg⟩ : ∃ sg, sg = sgn s := ⟨_, rfl⟩
 rw [← hn, ← hq] at HN HC
 rw [← hsg] at HC ⊢
 have HFF := Lib.hid (hF.alloc (.cells #[.int .i64 s.a, .int .i64 s.b, .int .i64 s.c, .int .i64 s.d, .int .i64 s.x, .int .i64 s.y] 35))
 clear hb h hn hq hsg
 go_enter Tryz.func75, Tryz.ntmps75
 go_upto_region 1 with fail
 refine genT (fun V => Row V (w.heap.size) 35 [.int .i64 s.a, .int .i64 s.b, .int .i64 s.c, .int .i64 s.d, .int .i64 s.x, .int .i64 s.y] ∧ Row V (gF) 154 [.func (.func 73) #[] #[]] ∧ Below w.heap.size w V) ⟨Row.new w _ [.int .i64 s.a, .int .i64 s.b, .int .i64 s.c, .int .i64 s.d, .int .i64 s.x, .int .i64 s.y], HFF.out, (Below.refl _ _).alloc (Nat.le_refl _) _⟩ ?_
 clear HFF hF
 intro W1 s1
 have HS1 := Lib.hid s1
 clear s1
 refine wp_region_held_drew (S := fun V => Row V (w.heap.size) 35 [.int .i64 s.a, .int .i64 s.b, .int .i64 s.c, .int .i64 s.d, .int .i64 s.x, .int .i64 s.y] ∧ Row V (gF) 154 [.func (.func 73) #[] #[]] ∧ Below w.heap.size w V) (by kernel_rfl) ?_ (fun hHeld => ?_)
 · exact ⟨(HS1.out.1).drew, (HS1.out.2.1).drew, (HS1.out.2.2).drew⟩
 refine tk 0 4 ?_ rfl (by kernel_rfl) (fun _ _ _ h => h) (by kernel_rfl) ?_ hHeld ?_
 rotate_left
 · intro w1 hSw; (try dsimp only at hSw); have cc := (hSw.2.1).cell 0; simp only [List.getElem?_cons_succ, List.getElem?_cons_zero] at cc; go_simp <;> with_reducible rfl
 try simp only [zz]
 refine tk 1 5 (.agg #[.int .i64 s.a, .int .i64 s.b, .int .i64 s.c, .int .i64 s.d, .int .i64 s.x, .int .i64 s.y]) rfl (by kernel_rfl) (fun _ _ _ h => h) (by kernel_rfl) (fun V hV => ex_rowT 35 _ rfl (w.heap.size) rfl 35 [.int .i64 s.a, .int .i64 s.b, .int .i64 s.c, .int .i64 s.d, .int .i64 s.x, .int .i64 s.y] _ Tryz.underlying35 rfl (by kernel_rfl) (hV.1)) hHeld ?_
 try simp only [zz]
 refine st2 2 (fun K hK => ?_)
 go_simp
 go_at_call 61
 refine (HN.out _).mono ?_
 rintro e v2 ⟨rfl, hb2⟩
 try go_simp
 refine hK.out _ _ ?_ (fun hHeld => ?_)
 · exact ⟨(hHeld.1).old hb2, (hHeld.2.1).old hb2, (hHeld.2.2).trans ((hb2).mono (hHeld.2.2).size)⟩
 clear hK K
 try simp only [zz]
 refine st2 3 (fun K hK => ?_)
 go_simp
 go_at_call 76
 refine (HI.out _).mono ?_
 rintro e v3 ⟨rfl, hb3⟩
 try go_simp
 refine hK.out _ _ ?_ (fun hHeld => ?_)
 · exact ⟨(hHeld.1).old hb3, (hHeld.2.1).old hb3, (hHeld.2.2).trans ((hb3).mono (hHeld.2.2).size)⟩
 clear hK K
 try simp only [zz]
 refine st2 4 (fun K hK => ?_)
 go_simp
 go_at_call 73
 refine (HC.out _).mono ?_
 rintro e v4 ⟨rfl, hb4⟩
 try go_simp
 refine hK.out _ _ ?_ (fun hHeld => ?_)
 · exact ⟨(hHeld.1).old hb4, (hHeld.2.1).old hb4, (hHeld.2.2).trans ((hb4).mono (hHeld.2.2).size)⟩
 clear hK K
 try simp only [zz]
 refine ta 5 3 hHeld ?_
 try simp only [zz]
 refine wpAnyH_done (by kernel_rfl) ?_ _
 go_wp2_with fail
 go_ret
 exact ⟨rfl, hHeld.2.2⟩
theorem mappedI_any (A : Option Addr) (c : Nat) (l : List Sg) (p : Sg → Int) (F : Nat) (bs : Array Value) (w : World) (hA : Rd w A (sgC l)) (hm : l.length ≤ 1000000)
 (hF : ∀ k (h : k < l.length) W, Below w.heap.size w W → Calls Tryz.prog F (#[.agg #[.int .i64 l[k].a, .int .i64 l[k].b, .int .i64 l[k].c, .int .i64 l[k].d, .int .i64 l[k].x, .int .i64 l[k].y]] ++ bs) W fun e w' => e = .returned (.int .i64 (p l[k])) ∧ Below W.heap.size W w') (eg : ∀ args w, (callFunc F args).run Tryz.prog w = .ok (.enter F args) w) :
 Calls Tryz.prog 74 #[.slice A l.length c, .func (.func F) #[] bs] w fun e w' => e = .returned (.slice (some ⟨w.heap.size, 0, none⟩) l.length l.length) ∧ Row w' w.heap.size 3 (ints (l.map p)) ∧ Below w.heap.size w w' := by
 have HF := Lib.hid hF; have HA := Lib.hid hA
 have hmk := fun W : World => make1 (P := Tryz.prog) 74 3 (.int .i64 0) 8 Tryz.underlying74 info3 rfl l.length (by omega) (by omega) W
 clear hF hA
 go_enter Tryz.func74, Tryz.ntmps74
 go_wp2
 go_loopw [13] (fun i wr => ∃ k : Nat, k ≤ l.length ∧ i = .int .i64 k ∧ Row wr w.heap.size 3 (ints ((l.map p).take k) ++ List.replicate (l.length - k) (.int .i64 0)) ∧ Below w.heap.size w wr) (fun i _ => l.length - (intOf i).toNat)
 case atStart => exact ⟨0, Nat.zero_le _, rfl, by have := Row.new w 3 (List.replicate l.length (.int .i64 0)); simpa [ints] using this, (Below.refl _ _).alloc (Nat.le_refl _) _⟩
 case round =>
  obtain ⟨k, hk, rfl, hrow, hb⟩ := hrel
  by_cases hlt : k < l.length
  · obtain ⟨b0, off, rfl, q0, q1, q2, q3, q4, q5⟩ := Rd.sg (HA.out.below hb) hlt
    have hset := Lib.hid (part_set (l.map p) l.length k (by simpa using hlt) (by simp))
    have hfk := Lib.hid (show (l.map p)[k]'(by simpa using hlt) = p l[k] by simp)
    have HFk := Lib.hid (HF.out k hlt)
    obtain ⟨E1, hE1⟩ : ∃ E1, E1 = p l[k] := ⟨_, rfl⟩
    rw [← hE1] at HFk hfk
    obtain ⟨⟨a, b, cc, d, x, y⟩, hs⟩ : ∃ s, s = l[k] := ⟨_, rfl⟩
    rw [← hs] at q0 q1 q2 q3 q4 q5 HFk
    dsimp only at q0 q1 q2 q3 q4 q5 HFk
    have hbn : Below wr.heap.size wr ((wr.alloc (.cells #[.int .i64 0, .int .i64 0, .int .i64 0, .int .i64 0, .int .i64 0, .int .i64 0] 35)).setRow wr.heap.size #[.int .i64 a, .int .i64 b, .int .i64 cc, .int .i64 d, .int .i64 x, .int .i64 y]) := Below.setRow ((Below.refl _ _).alloc (Nat.le_refl _) _) (Nat.le_refl _) _
    have Hrow := Lib.hid (hrow.old hbn)
    have Hb := Lib.hid (hb.trans (hbn.mono hb.size))
    have Hn : Hid (Row ((wr.alloc (.cells #[.int .i64 0, .int .i64 0, .int .i64 0, .int .i64 0, .int .i64 0, .int .i64 0] 35)).setRow wr.heap.size #[.int .i64 a, .int .i64 b, .int .i64 cc, .int .i64 d, .int .i64 x, .int .i64 y]) wr.heap.size 35 [.int .i64 a, .int .i64 b, .int .i64 cc, .int .i64 d, .int .i64 x, .int .i64 y]) := (Row.new wr 35 [.int .i64 0, .int .i64 0, .int .i64 0, .int .i64 0, .int .i64 0, .int .i64 0]).setRow _
    clear hrow hb hs hbn hE1
    go_wp2_with (first
     | (refine wpList_store_row rfl 35 _ _ rfl (wr.heap.size) #[.int .i64 a, .int .i64 b, .int .i64 cc, .int .i64 d, .int .i64 x, .int .i64 y] rfl rfl 35 _ (Row.new wr 35 [.int .i64 0, .int .i64 0, .int .i64 0, .int .i64 0, .int .i64 0, .int .i64 0]) ?_ ?_ ?_ ?_; (kernel_rfl); (rfl); (simp [Value.oneCell']))
     | (refine wpList_load_row rfl 35 _ rfl (wr.heap.size) rfl 35 #[.int .i64 a, .int .i64 b, .int .i64 cc, .int .i64 d, .int .i64 x, .int .i64 y] (0, 0) _ Hn.out Tryz.underlying35 rfl ?_ ?_; (kernel_rfl)))
    refine (HFk.out _ Hb.out).mono ?_
    rintro e w1 ⟨rfl, hb1⟩
    have Hrow1 := Lib.hid (Hrow.out.old hb1)
    have hc1 : w1.cell? ⟨w.heap.size, k, none⟩ = some (.int .i64 0) := by
     rw [Hrow1.out.cell]
     exact mid_get _ _ _ _ (by simp [ints]; omega) hlt
    have hf1 := Hrow1.out.free k
    have Hb1 := Lib.hid (Hb.out.trans (hb1.mono Hb.out.size))
    clear hb1 q0 q1 q2 q3 q4 q5
    go_wp2
    go_roundw
    case rel => exact ⟨k + 1, by omega, by go_num, by rw [← hset.out, hfk.out]; exact Hrow1.out.set k _, Hb1.out.setCell (by simp) _⟩
    case measure => simp [intOf]; omega
  · obtain rfl : k = l.length := by omega
    go_wp2
    go_ret
    exact ⟨rfl, by rw [Nat.sub_self, List.replicate_zero, List.append_nil, List.take_of_length_le (by simp)] at hrow; exact hrow, hb⟩
theorem crossings2_any (n : Int) (w : World) : Calls Tryz.prog 78 #[.int .i64 n] w fun e w' => e = .returned (.bool (n == 0)) ∧ w = w' := by
 go_enter Tryz.func78, Tryz.ntmps78
 go_wp2
 go_ret
 exact ⟨rfl, rfl⟩
theorem spansWhereI_any (A : Option Addr) (c : Nat) (l : List Int) (w : World) (hA : Rd w A (ints l)) (hm : l.length ≤ 1000000) :
 Calls Tryz.prog 77 #[.slice A l.length c, .func (.func 78) #[] #[]] w fun e w' => ∃ v, e = .returned v ∧ w'.ownsRow w.heap.size 77 2 v (spL (fun k => l.getD k 1 == 0) l.length).length (spanC (spL (fun k => l.getD k 1 == 0) l.length)) ∧ Below w.heap.size w w' := by
 have HA := Lib.hid hA
 obtain ⟨p, hp0⟩ : ∃ p : Nat → Bool, p = fun k => l.getD k 1 == 0 := ⟨_, rfl⟩
 have HP0 : Hid (∀ k (h : k < l.length), p k = (l[k] == 0)) := fun k h => by rw [hp0]; simp [h]
 rw [← hp0]
 clear hA hp0
 go_enter Tryz.func77, Tryz.ntmps77
 go_wp2
 go_loopw [5, 10] (fun v i wr => ∃ k : Nat, k ≤ l.length ∧ i = .int .i64 k ∧ Hid (wr.ownsRow w.heap.size 77 2 v (spL p k).length (spanC (spL p k))) ∧ Hid (Below w.heap.size w wr)) (fun _ i _ => l.length - (intOf i).toNat)
 case atStart => exact ⟨0, Nat.zero_le _, rfl, World.ownsRow_nil _ _ _ _, Below.refl _ _⟩
 case round =>
  obtain ⟨k, hk, rfl, Hown, Hb⟩ := hrel
  obtain ⟨VA, VC, rfl⟩ := own_slice Hown.out
  by_cases hlt : k < l.length
  · obtain ⟨b0, off, rfl, q0⟩ := Rd.int (HA.out.below Hb.out) hlt
    have HPk := Lib.hid (HP0.out k hlt)
    obtain ⟨z, hz⟩ : ∃ z, z = l[k] := ⟨_, rfl⟩
    rw [← hz] at q0 HPk
    have HK1 : Hid ((spL p (k + 1)) = if p k then widL (spL p k) (k : Int) else spL p k) := rfl
    have Hln := Lib.hid (spL_len p k)
    have HC2 := Lib.hid (fun W => crossings2_any z W)
    obtain ⟨zb, hzb⟩ : ∃ zb, zb = (z == 0) := ⟨_, rfl⟩
    rw [← hzb] at HC2 HPk
    clear hz hzb
    cases zb with
    | true =>
      have HK2 : Hid (spL p (k + 1) = widL (spL p k) (k : Int)) := by unfold Hid; rw [HK1.out, if_pos HPk.out]
      clear HK1 HPk
      go_wp2_with (first
       | (go_at_call 78; refine (HC2.out _).mono ?_; rintro e w1 ⟨rfl, rfl⟩)
       | (go_at_call 127; refine (widened_any w.heap.size (.slice VA (spL p k).length VC) (spL p k) (k : Int) _ Hown.out Hb.out.size (by have := Hln.out; omega) (by omega)).mono ?_; rintro e w2 ⟨v2, rfl, ho2, hst2⟩; have HO2 := Lib.hid ho2; have HB2 := Lib.hid (Hb.out.trans ((hst2.below Hown.out Hb.out.size))); clear ho2 hst2))
      go_roundw
      case rel => exact ⟨k + 1, by omega, by go_num, by rw [HK2.out]; exact HO2.out, HB2.out⟩
      case measure => simp [intOf]; omega
    | false =>
      have HK2 : Hid (spL p (k + 1) = spL p k) := by unfold Hid; rw [HK1.out, if_neg (by rw [HPk.out]; decide)]
      clear HK1 HPk
      go_wp2_with (go_at_call 78; refine (HC2.out _).mono ?_; rintro e w1 ⟨rfl, rfl⟩)
      go_roundw
      case rel => exact ⟨k + 1, by omega, by go_num, by rw [HK2.out]; exact Hown.out, Hb.out⟩
      case measure => simp [intOf]; omega
  · obtain rfl : k = l.length := by omega
    go_wp2
    go_ret
    exact ⟨_, rfl, Hown.out, Hb.out⟩
end Go.Proofs.YtaknlhepgeiekaaGreatDoor
