import Derived.Test.YtoclnlimnjnbkaaGreatDoorM17
import Derived.Test.YtoclnlimnjnbkaaGreatDoorM29
namespace Go.Proofs.YtoclnlimnjnbkaaGreatDoor
set_option linter.all false
open Go.RowKit Go.Fl
abbrev Wr := Option Addr × Nat × List UInt8
def wrC (t : Wr) : Value := .slice t.1 t.2.2.length t.2.1
def i8s (l : List Int) : List Value := l.map (Value.int .i8)
def capU (c : UInt8) : UInt8 := UInt8.ofNat (65 + c.toNat % 26)
def wordU (l : List UInt8) : List UInt8 := l.map capU
def HdS (w : World) (A : Option Addr) (Xs : List Wr) (B : Option Addr) (bys : List Int) (W : World) : Prop := Rd W A (Xs.map wrC) ∧ (∀ t ∈ Xs, Rd W t.1 (byts t.2.2)) ∧ Rd W B (i8s bys) ∧ Aw W ∧ Below w.heap.size w W
theorem HdS.keep {w W W' : World} {A : Option Addr} {Xs : List Wr} {B : Option Addr} {bys : List Int} (h : HdS w A Xs B bys W) (hb : Below W.heap.size W W') : HdS w A Xs B bys W' :=
  ⟨h.1.below hb, fun t ht => (h.2.1 t ht).below hb, h.2.2.1.below hb, h.2.2.2.1.old hb, h.2.2.2.2.trans (hb.mono h.2.2.2.2.size)⟩
theorem capU_toNat (c : UInt8) : (capU c).toNat = 65 + c.toNat % 26 := by
  unfold capU
  have := Nat.mod_lt c.toNat (show 0 < 26 by decide)
  rw [UInt8.toNat_ofNat_of_lt' (by show 65 + c.toNat % 26 < 256; omega)]
theorem okW_word {l : List UInt8} (h : 1 ≤ l.length) : okW (wordU l) := by
  refine ⟨fun e => ?_, fun c hc => ?_⟩
  · have := congrArg List.length e
    simp [wordU] at this
    rw [this] at h
    simp at h
  · obtain ⟨x, _, rfl⟩ := List.mem_map.1 hc
    rw [capU_toNat]
    have := Nat.mod_lt x.toNat (show 0 < 26 by decide)
    omega
theorem wordU_take {l : List UInt8} {k : Nat} (h : k < l.length) : str ((wordU l).take (k + 1)) = str ((wordU l).take k) ++ str [capU l[k]] := by
  rw [str_snoc, List.take_succ_eq_append_getElem (by simpa [wordU] using h)]
  simp [wordU]
def wordsU (Xs : List Wr) : List (List UInt8) := Xs.map fun t => wordU t.2.2
theorem wordI_ok {l : List UInt8} (h : okW l) (h4 : l.length ≤ 4) : wordI l = 0 := by
  have he : l.isEmpty = false := by
    cases l with
    | nil => exact absurd rfl h.1
    | cons a l => rfl
  rw [wordI_short he h4]
  have ha : l.all (fun c => capB (u8I c)) = true := by
    rw [List.all_eq_true]
    intro c hc
    have := h.2 c hc
    show (decide ((65 : Int) ≤ (c.toNat : Int)) && decide ((c.toNat : Int) ≤ 90)) = true
    rw [Bool.and_eq_true, decide_eq_true_eq, decide_eq_true_eq]
    omega
  rw [ha]; rfl
theorem rd_news {w : World} {g : Nat} {vs : List Value} (h : Rd w (some ⟨g, 0, none⟩) vs) : ∀ j u, vs[j]? = some u → w.cell? ((⟨g, 0, none⟩ : Addr).add j) = some u := by
  intro j u hu
  obtain ⟨b, off, e, hc⟩ := h j u hu
  cases e
  rw [Nat.zero_add] at hc
  by_cases hj : j = 0
  · subst hj; simpa [Addr.add] using hc
  · simpa [Addr.add, hj] using hc
theorem all_len {d : Nat} (hd : d ≤ 6) : ∀ {ws : List (List UInt8)}, (∀ u ∈ ws, okW u ∧ u.length ≤ 4) → (ws.flatMap (keyedL d)).length ≤ 426 * ws.length
  | [], _ => by simp
  | u :: ws, h => by
    have h1 := h u List.mem_cons_self
    have h2 := all_len hd (ws := ws) fun v hv => h v (List.mem_cons_of_mem _ hv)
    have h3 := keyed_71 h1.2 h1.1.2
    have h4 := keyed_len d u
    have h5 : d * (keyedL 1 u).length ≤ 6 * 71 := Nat.mul_le_mul hd h3
    rw [List.flatMap_cons, List.length_append, List.length_cons]
    omega
def okL (t : Wr) : Prop := 1 ≤ t.2.2.length ∧ t.2.2.length ≤ 4
set_option maxRecDepth 100000 in
set_option maxHeartbeats 1000000 in
theorem heard_far (haw : AwakeOk) (A : Option Addr) (xc : Nat) (Xs : List Wr) (dt : Nat) (B : Option Addr) (bc : Nat) (bys : List Int) (w : World) (hS : HdS w A Xs B bys w) (hxb : Xs.length ≤ 9223372036854775807) (hbb : bys.length ≤ 9223372036854775807) (h : 3 < Xs.length) : Calls Tryz.prog 5 #[.slice A Xs.length xc, .int .u8 (dt : Int), .slice B bys.length bc] w fun e w' => e = .returned (.bool true) ∧ Below w.heap.size w w' := by
  have HS0 := Lib.hid hS
  have e1 : decide ((3 : Int) < (Xs.length : Int)) = true := decide_eq_true (by omega)
  clear hS
  go_enter Tryz.func5, Tryz.ntmps5
  go_wp2_with (go_at_call 8; refine (haw _ HS0.out.2.2.2.1).mono ?_; rintro e w5 ⟨rfl, hb5⟩; have HS4 := Lib.hid (HS0.out.keep hb5); clear hb5)
  go_ret
  exact ⟨rfl, HS4.out.2.2.2.2⟩
set_option maxRecDepth 100000 in
set_option maxHeartbeats 16000000 in
theorem heard_walk (haw : AwakeOk) (A : Option Addr) (xc : Nat) (Xs : List Wr) (dt : Nat) (B : Option Addr) (bc : Nat) (bys : List Int) (w : World) (hS : HdS w A Xs B bys w) (hxb : Xs.length ≤ 9223372036854775807) (hbb : bys.length ≤ 9223372036854775807) (h3 : Xs.length ≤ 3) (hdt : dt < 256) (hby : ∀ b ∈ bys, -128 ≤ b ∧ b ≤ 127) : Calls Tryz.prog 5 #[.slice A Xs.length xc, .int .u8 (dt : Int), .slice B bys.length bc] w fun e w' => e = .returned (.bool true) ∧ Below w.heap.size w w' := by
  have HS0 := Lib.hid hS; have HBY := Lib.hid hby
  have e1 : decide ((3 : Int) < (Xs.length : Int)) = false := decide_eq_false (by omega)
  obtain ⟨M, hM⟩ : ∃ M, M = w.heap.size := ⟨_, rfl⟩
  have HM := Lib.hid hM
  have hst0 : w.ownsRow M 9 1 (.slice none 0 0) 0 (strs ((wordsU (Xs.take 0)).map str)) := ⟨by simp [strs, wordsU], .inl ⟨rfl, rfl⟩⟩
  have HST0 := Lib.hid hst0
  obtain ⟨iS, hiS, hiS0, hiS1, hiS2⟩ := info_parts info9
  clear hS hby hM hst0
  go_enter Tryz.func5, Tryz.ntmps5
  go_wp2_with fail
  clear e1
  go_loopg [7, 42] Xs.length (fun g s7 s42 wr => ∃ i : Nat, i + g = Xs.length ∧ s42 = .int .i64 i ∧ Hid (wr.ownsRow M 9 1 s7 i (strs ((wordsU (Xs.take i)).map str))) ∧ Hid (∀ t ∈ Xs.take i, okL t) ∧ Hid (Below M w wr))
  case atStart => exact ⟨0, by omega, rfl, HST0.out, (fun t ht => by simp at ht), Below.refl _ _⟩
  case round =>
    clear HST0
    obtain ⟨i, hi, rfl, hown, hok, hb⟩ := hrel
    have hmz : M ≤ wr.heap.size := by have h1 := hb.out.size; have h2 := HM.out; omega
    have HS1 := Lib.hid (HS0.out.keep (HM.out ▸ hb.out))
    by_cases hlt : i < Xs.length
    · obtain ⟨t, ht⟩ : ∃ t, t = Xs[i] := ⟨_, rfl⟩
      have hgt : (Xs.map wrC)[i]? = some (.slice t.1 t.2.2.length t.2.1) := by rw [List.getElem?_map, List.getElem?_eq_getElem hlt, ht]; rfl
      obtain ⟨bA, oA, hA1, hcA⟩ := HS1.out.1 i _ hgt
      subst hA1
      have hrt := HS1.out.2.1 t (by rw [ht]; exact List.getElem_mem hlt)
      obtain ⟨TA, tc, tb, htt⟩ : ∃ TA tc tb, t = (TA, tc, tb) := ⟨_, _, _, rfl⟩
      subst htt
      have HRT := Lib.hid hrt; have HT := Lib.hid ht
      have hi1 : (i : Int) < (Xs.length : Int) := by omega
      clear hgt hrt ht
      dsimp only at hcA
      by_cases hl1 : tb.length < 1
      · have g1 : decide ((tb.length : Int) < 1) = true := decide_eq_true (by omega)
        clear hl1
        go_wp2_with (go_at_call 8; refine (haw _ HS1.out.2.2.2.1).mono ?_; rintro e w5 ⟨rfl, hb5⟩; have HS4 := Lib.hid (HS1.out.keep hb5); clear hb5)
        go_ret
        exact ⟨rfl, HS4.out.2.2.2.2⟩
      by_cases hl4 : 4 < tb.length
      · have g1 : decide ((tb.length : Int) < 1) = false := decide_eq_false (by omega)
        have g2 : decide ((4 : Int) < (tb.length : Int)) = true := decide_eq_true (by omega)
        clear hl1 hl4
        go_wp2_with (go_at_call 8; refine (haw _ HS1.out.2.2.2.1).mono ?_; rintro e w5 ⟨rfl, hb5⟩; have HS4 := Lib.hid (HS1.out.keep hb5); clear hb5)
        go_ret
        exact ⟨rfl, HS4.out.2.2.2.2⟩
      have g1 : decide ((tb.length : Int) < 1) = false := decide_eq_false (by omega)
      have g2 : decide ((4 : Int) < (tb.length : Int)) = false := decide_eq_false (by omega)
      go_wp2_with fail
      obtain ⟨W1, hW1⟩ : ∃ W1 : World, W1 = wr := ⟨_, rfl⟩
      subst hW1
      go_loopg [10, 57] tb.length (fun g s10 s57 wx => ∃ k : Nat, k + g = tb.length ∧ s57 = .int .i64 k ∧ s10 = .string (str ((wordU tb).take k)) ∧ Hid (Below W1.heap.size W1 wx))
      case atStart => exact ⟨0, by omega, rfl, rfl, Below.refl _ _⟩
      case round =>
        obtain ⟨k, hk, rfl, rfl, hbx⟩ := hrel
        by_cases hkl : k < tb.length
        · obtain ⟨b2, o2, hA2, hc2⟩ := Rd.byteAt (HRT.out.below hbx.out) hkl
          subst hA2
          obtain ⟨x, hx⟩ : ∃ x : Nat, x = tb[k].toNat := ⟨_, rfl⟩
          have hxx : byteAt tb k = (x : Int) := by unfold byteAt; rw [List.getD_eq_getElem?_getD, List.getElem?_eq_getElem hkl, hx]; rfl
          rw [hxx] at hc2
          have hx256 : x < 256 := by rw [hx]; exact UInt8.toNat_lt _
          obtain ⟨m, hm⟩ : ∃ m, m = x % 26 := ⟨_, rfl⟩
          have hm26 : m < 26 := by omega
          have t1 : (x : Int) % 26 = (m : Int) := by omega
          have t2 : (x : Int).tmod 26 = (m : Int) := by rw [Int.tmod_eq_emod_of_nonneg (by omega)]; omega
          have t3 : IntKind.u8.wrap (65 + (m : Int)) = 65 + (m : Int) := IntWalk.u8_in _ (by omega)
          have hcap : ((capU tb[k]).toNat : Int) = 65 + (m : Int) := by rw [capU_toNat, ← hx, ← hm]; omega
          have kc : (convert 48 9 (.slice (some ⟨wr.heap.size, 0, none⟩) 1 1)).run Tryz.prog (wr.alloc (.cells #[.int .u8 (65 + (m : Int))] 5)) = .ok (.string (str [capU tb[k]])) (wr.alloc (.cells #[.int .u8 (65 + (m : Int))] 5)) :=
            back wr #[.int .u8 (65 + (m : Int))] 5 0 1 [capU tb[k]] rfl (fun j b hj => by
              cases j with
              | zero => simp only [List.getElem?_cons_zero, Option.some.injEq] at hj; subst hj; rw [hcap]; rfl
              | succ j => simp at hj)
          obtain ⟨sc, hsc⟩ : ∃ sc, sc = str [capU tb[k]] := ⟨_, rfl⟩
          rw [← hsc] at kc
          have HT2 := Lib.hid (wordU_take hkl)
          have HSC := Lib.hid hsc
          obtain ⟨sk, hsk⟩ : ∃ sk, sk = str ((wordU tb).take k) := ⟨_, rfl⟩
          have HSK := Lib.hid hsk
          have hki : (k : Int) < (tb.length : Int) := by omega
          have hz1 : sk.size ≤ 4 := by
            rw [hsk]
            show ((wordU tb).take k).toArray.size ≤ 4
            rw [List.size_toArray, List.length_take]
            omega
          have hz2 : sc.size ≤ 1 := by rw [hsc]; exact Nat.le_refl 1
          have hz3 : sk.size + sc.size ≤ 9223372036854775807 := by omega
          rw [← hsk]
          clear hxx hx hm hcap hsc hsk
          go_wp2_with fail
          go_roundg (tb.length - (k + 1))
          case measure => omega
          case rel =>
            refine ⟨k + 1, by omega, rfl, ?_, hbx.out.alloc hbx.out.size _⟩
            rw [HT2.out, ← HSK.out, ← HSC.out]
        · obtain rfl : k = tb.length := by omega
          have hO := owns_below hown.out hbx.out
          have HO := Lib.hid hO
          have hm2 : M ≤ wr.heap.size := Nat.le_trans hmz hbx.out.size
          have hbM := hb.out.trans (hbx.out.mono hmz)
          have HBM := Lib.hid hbM
          have HOK := Lib.hid hok.out
          obtain ⟨sw, hsw⟩ : ∃ sw, sw = str ((wordU tb).take tb.length) := ⟨_, rfl⟩
          rw [← hsw]
          have hsw2 : sw = str (wordU tb) := by rw [hsw, List.take_of_length_le (by simp [wordU])]
          have HSW := Lib.hid hsw2
          have hokt : okL (TA, tc, tb) := ⟨by show 1 ≤ tb.length; omega, by show tb.length ≤ 4; omega⟩
          have HOKT := Lib.hid hokt
          clear hO hown hb hbx hok hbM hsw hsw2 g1 g2 hokt hl1 hl4 hcA
          go_wp2_with (at_builtin; refine wpList_append_own_at _ rfl _ _ 78 rfl M 9 iS (.string ⟨#[]⟩) 1 16 Tryz.underlying78 hiS hiS0 hiS1 hiS2 rfl (by decide) _ i (strs ((wordsU (Xs.take i)).map str)) rfl (HO.out.alloc _) ⟨wr.heap.size, 0, none⟩ 1 1 [.string sw] rfl rfl (news1 _ _ _ _ rfl) (by simp [Value.oneCell']) (by unfold maxLen; omega) (by omega) (by simp; omega) ?_; intro v' w1 hown' hgrow _ hat2)
          go_roundg (Xs.length - (i + 1))
          case measure => omega
          case rel =>
            have e : (wordsU (Xs.take (i + 1))).map str = (wordsU (Xs.take i)).map str ++ [sw] := by
              rw [List.take_succ_eq_append_getElem hlt, ← HT.out, HSW.out]
              simp [wordsU]
            refine ⟨i + 1, by omega, rfl, ?_, ?_, Below.app HBM.out hm2 HO.out hgrow⟩
            · have h := hown'
              unfold Hid
              rw [e]
              unfold strs at h ⊢
              rw [List.map_append]
              exact h
            · intro t ht
              rw [List.take_succ_eq_append_getElem hlt, ← HT.out] at ht
              rcases List.mem_append.1 ht with h | h
              · exact HOK.out t h
              · rw [List.mem_singleton.1 h]; exact HOKT.out
    · obtain rfl : i = Xs.length := by omega
      rw [List.take_length] at hown hok
      obtain ⟨WS, hWS⟩ : ∃ WS, WS = wordsU Xs := ⟨_, rfl⟩
      rw [← hWS] at hown
      have hWl : WS.length = Xs.length := by rw [hWS]; simp [wordsU]
      have hWo : ∀ u ∈ WS, okW u ∧ u.length ≤ 4 := by
        intro u hu
        rw [hWS] at hu
        obtain ⟨t, ht, rfl⟩ := List.mem_map.1 hu
        have h := hok.out t ht
        exact ⟨okW_word h.1, by simpa [wordU] using h.2⟩
      obtain ⟨A7, c7, hv7, hr7⟩ := owned_slice hown.out
      subst hv7
      obtain ⟨n, hn⟩ : ∃ n, n = Xs.length := ⟨_, rfl⟩
      rw [← hn] at hWl
      have hn3 : n ≤ 3 := by omega
      have HR7 := Lib.hid hr7; have HWL := Lib.hid hWl; have HWO := Lib.hid hWo; have HN := Lib.hid hn
      rw [← hn]
      clear hown hok hb hWS hr7 hWl hWo hn hiS hiS0 hiS1 hiS2 HM HS0
      obtain ⟨W2, hW2⟩ : ∃ W2 : World, W2 = wr := ⟨_, rfl⟩
      subst hW2
      obtain ⟨m6, hm6⟩ : ∃ m6, m6 = dt % 6 := ⟨_, rfl⟩
      obtain ⟨sz, hsz⟩ : ∃ sz, sz = 1 + m6 := ⟨_, rfl⟩
      have hs1 : 1 ≤ sz := by omega
      have hs6 : sz ≤ 6 := by omega
      have t1 : (dt : Int) % 6 = (m6 : Int) := by omega
      have t2 : (dt : Int).tmod 6 = (m6 : Int) := by rw [Int.tmod_eq_emod_of_nonneg (by omega)]; omega
      have t3 : 1 + (m6 : Int) = (sz : Int) := by omega
      have t4 : IntKind.i64.wrap (sz : Int) = (sz : Int) := by rw [IntWalk.i64_in _ (by omega)]
      clear hm6 hsz
      go_upto_region 19 with fail
      clear t1 t2 t3 t4
      have HKY : Hid (∀ W i (d : Nat), i < n → 1 ≤ d → d ≤ 6 → Aw W → ∀ dI : Int, dI = (d : Int) → Calls Tryz.prog 25 #[.string (str (WS.getD i [])), .int .i64 dI] W fun e w' => ∃ g c, e = .returned (.tuple #[.slice (some ⟨g, 0, none⟩) (keyedL d (WS.getD i [])).length c, .int .i64 0]) ∧ Rd w' (some ⟨g, 0, none⟩) (flts (keyedL d (WS.getD i []))) ∧ Below W.heap.size W w') := fun W i d hi h1 h2 hA dI hdI => by
        subst hdI
        have hm : WS.getD i [] ∈ WS := by rw [List.getD_eq_getElem?_getD, List.getElem?_eq_getElem (by rw [HWL.out]; exact hi)]; exact List.getElem_mem _
        have ho := HWO.out _ hm
        refine b_key (str (WS.getD i [])) d _ _ W hA h1 (by omega) (wordI_ok ho.1 ho.2) rfl rfl ?_
        unfold keyedL
        rw [List.length_append, List.length_replicate]; omega
      have hlen : ∀ i (d : Nat), i < n → (keyedL d (WS.getD i [])).length = d * (keyedL 1 (WS.getD i [])).length ∧ (keyedL 1 (WS.getD i [])).length ≤ 71 := fun i d hi => by
        have hm : WS.getD i [] ∈ WS := by rw [List.getD_eq_getElem?_getD, List.getElem?_eq_getElem (by rw [HWL.out]; exact hi)]; exact List.getElem_mem _
        have ho := HWO.out _ hm
        exact ⟨keyed_len _ _, keyed_71 ho.2 ho.1.2⟩
      have HLEN := Lib.hid hlen
      clear hlen
      obtain ⟨iF, hiF, hiF0, hiF1, hiF2⟩ := info_parts info37
      obtain ⟨W3, hW3⟩ : ∃ W3 : World, W3 = W2 := ⟨_, rfl⟩
      subst hW3
      obtain ⟨M2, hM2⟩ : ∃ M2, M2 = W3.heap.size := ⟨_, rfl⟩
      have HM2 := Lib.hid hM2
      have hst : W3.ownsRow M2 56 1 (.slice none 0 0) 0 (flts ((WS.take 0).flatMap (keyedL sz))) := ⟨by simp [flts], .inl ⟨rfl, rfl⟩⟩
      have HST := Lib.hid hst
      clear hM2 hst
      go_wp2_with fail
      go_loopg [14, 82] n (fun g s14 s82 wr => ∃ i : Nat, i + g = n ∧ s82 = .int .i64 i ∧ Hid (wr.ownsRow M2 56 1 s14 ((WS.take i).flatMap (keyedL sz)).length (flts ((WS.take i).flatMap (keyedL sz)))) ∧ Hid (Below M2 W3 wr))
      case atStart => exact ⟨0, by omega, rfl, HST.out, Below.refl _ _⟩
      case round =>
        clear HST
        obtain ⟨i, hi, rfl, hown, hb⟩ := hrel
        have hmz : M2 ≤ wr.heap.size := by have h1 := hb.out.size; have h2 := HM2.out; omega
        by_cases hlt : i < n
        · obtain ⟨u, hu⟩ : ∃ u, u = WS.getD i [] := ⟨_, rfl⟩
          have hgs : (strs (WS.map str))[i]? = some (.string (str u)) := by
            unfold strs
            rw [List.getElem?_map, List.getElem?_map, List.getElem?_eq_getElem (by rw [HWL.out]; exact hlt), hu, List.getD_eq_getElem?_getD, List.getElem?_eq_getElem (by rw [HWL.out]; exact hlt)]; rfl
          obtain ⟨b7, o7, hA7, hc7⟩ := (HR7.out.below (HM2.out ▸ hb.out)) i _ hgs
          subst hA7
          obtain ⟨hl1, hl2⟩ := HLEN.out i sz hlt
          rw [← hu] at hl1 hl2
          obtain ⟨La, hLa⟩ : ∃ La, La = keyedL sz u := ⟨_, rfl⟩
          obtain ⟨na, hna⟩ : ∃ na, na = La.length := ⟨_, rfl⟩
          obtain ⟨nb, hnb⟩ : ∃ nb, nb = (keyedL 1 u).length := ⟨_, rfl⟩
          rw [← hLa, ← hna, ← hnb] at hl1
          rw [← hnb] at hl2
          have hna426 : na ≤ 426 := by
            have : sz * nb ≤ 6 * 71 := Nat.mul_le_mul hs6 hl2
            omega
          have q1 : (sz : Int) * (nb : Int) = (na : Int) := by rw [hl1]; exact (Int.natCast_mul _ _).symm
          have q2 : IntKind.i64.wrap (na : Int) = (na : Int) := by rw [IntWalk.i64_in _ (by omega)]
          have HKA : Hid (∀ W, Aw W → Calls Tryz.prog 25 #[.string (str u), .int .i64 (sz : Int)] W fun e w' => ∃ g c, e = .returned (.tuple #[.slice (some ⟨g, 0, none⟩) na c, .int .i64 0]) ∧ Rd w' (some ⟨g, 0, none⟩) (flts La) ∧ Below W.heap.size W w') := fun W hA => by
            have k := HKY.out W i sz hlt hs1 hs6 hA (sz : Int) rfl
            rw [← hu, ← hLa, ← hna] at k
            exact k
          have HKB : Hid (∀ W, Aw W → Calls Tryz.prog 25 #[.string (str u), .int .i64 1] W fun e w' => ∃ g c, e = .returned (.tuple #[.slice (some ⟨g, 0, none⟩) nb c, .int .i64 0]) ∧ Rd w' (some ⟨g, 0, none⟩) (flts (keyedL 1 u)) ∧ Below W.heap.size W w') := fun W hA => by
            have k := HKY.out W i 1 hlt (Nat.le_refl _) (by omega) hA 1 rfl
            rw [← hu, ← hnb] at k
            exact k
          have HNA := Lib.hid hna; have HLA := Lib.hid hLa; have HU := Lib.hid hu
          have HS2 := Lib.hid (HS1.out.keep (HM2.out ▸ hb.out))
          have hi1 : (i : Int) < (n : Int) := by omega
          obtain ⟨su, hsu⟩ : ∃ su, su = str u := ⟨_, rfl⟩
          rw [← hsu] at hc7 HKA HKB
          have q3 : ((na : Int) != (na : Int)) = false := by rw [bne_eq_false_iff_eq]
          have q4 : decide ((500 : Int) < (na : Int)) = false := decide_eq_false (by omega)
          clear hgs hu hl1 hLa hna hnb hsu hl2
          go_upto_region 23 with (go_at_call 25; refine (HKA.out _ HS2.out.2.2.2.1).mono ?_; rintro e w1 ⟨ga, ca, rfl, hra, hb1⟩; have HRA := Lib.hid hra; have HB1 := Lib.hid hb1; have HS3 := Lib.hid (HS2.out.keep hb1); clear hra hb1)
          go_upto_region 24 with (go_at_call 25; refine (HKB.out _ HS3.out.2.2.2.1).mono ?_; rintro e w2 ⟨gb, cb, rfl, hrb, hb2⟩; have HRA2 := Lib.hid (HRA.out.below hb2); have HB2 := Lib.hid hb2; clear hrb hb2)
          have HO := Lib.hid (owns_below (owns_below hown.out HB1.out) HB2.out)
          have hbM := (hb.out.trans (HB1.out.mono hmz)).trans (HB2.out.mono (Nat.le_trans hmz HB1.out.size))
          have HBM := Lib.hid hbM
          have hm2 : M2 ≤ w2.heap.size := Nat.le_trans (Nat.le_trans hmz HB1.out.size) HB2.out.size
          obtain ⟨ln, hln⟩ : ∃ ln, ln = ((WS.take i).flatMap (keyedL sz)).length := ⟨_, rfl⟩
          have hll : ln ≤ 1278 := by
            have h := all_len hs6 (ws := WS.take i) fun u hu => HWO.out u (List.mem_of_mem_take hu)
            rw [List.length_take] at h
            rw [hln]; omega
          have HLN := Lib.hid hln
          have ho2 := HO.out
          rw [← hln] at ho2
          have HO2 := Lib.hid ho2
          clear hown hb hbM hln ho2 HO HRA HB1 HB2 HS2 HS3
          go_wp2_with (at_builtin; refine wpList_append_own_at _ rfl _ _ 22 rfl M2 56 iF (.float .f32 0) 1 4 Tryz.underlying22 hiF hiF0 hiF1 hiF2 rfl (by decide) _ ln (flts ((WS.take i).flatMap (keyedL sz))) rfl HO2.out ⟨ga, 0, none⟩ na ca (flts La) rfl (by rw [flts, List.length_map, HNA.out]; omega) (rd_news HRA2.out) (flts_one _) (by unfold maxLen; omega) (by omega) hm2 ?_; intro v' w3 hown' hgrow _ hat2)
          go_roundg (n - (i + 1))
          case measure => omega
          case rel =>
            have e : (WS.take (i + 1)).flatMap (keyedL sz) = (WS.take i).flatMap (keyedL sz) ++ La := by
              rw [List.take_succ_eq_append_getElem (by rw [HWL.out]; exact hlt), List.flatMap_append, HLA.out, HU.out, List.getD_eq_getElem?_getD, List.getElem?_eq_getElem (by rw [HWL.out]; exact hlt)]
              simp
            refine ⟨i + 1, by omega, rfl, ?_, HBM.out.grown hgrow hm2 (fun k hk => (HO2.out.lt k hk).1)⟩
            have h := hown'
            unfold Hid
            rw [e, List.length_append, ← HLN.out, ← HNA.out]
            unfold flts at h ⊢
            rw [List.map_append]
            exact h
        · obtain rfl : n = i := by omega
          have hfl := hown.out
          rw [List.take_of_length_le (by rw [HWL.out]; exact Nat.le_refl _)] at hfl
          obtain ⟨LL, hLL⟩ : ∃ LL, LL = WS.flatMap (keyedL sz) := ⟨_, rfl⟩
          rw [← hLL] at hfl
          obtain ⟨nl, hnl⟩ : ∃ nl, nl = LL.length := ⟨_, rfl⟩
          have hnl1 : nl ≤ 1278 := by
            have h := all_len hs6 HWO.out
            rw [HWL.out] at h
            rw [hnl, hLL]; omega
          rw [← hnl] at hfl
          obtain ⟨A14, c14, hv14, hr14⟩ := owned_slice hfl
          subst hv14
          have HR14 := Lib.hid hr14; have HNL := Lib.hid hnl; have HLL := Lib.hid hLL
          have hcap := own_cap hfl
          have HCAP := Lib.hid hcap
          have HS4 := Lib.hid (HS1.out.keep (HM2.out ▸ hb.out)); have HR7b := Lib.hid (HR7.out.below (HM2.out ▸ hb.out))
          clear hown hb hfl hr14 hnl hLL hcap hiF hiF0 hiF1 hiF2 HM2 HS1 HR7
          obtain ⟨W4, hW4⟩ : ∃ W4 : World, W4 = wr := ⟨_, rfl⟩
          subst hW4
          obtain ⟨RS, hRS⟩ : ∃ RS, RS = allR sz WS := ⟨_, rfl⟩
          have hal : altT sz true RS true := by rw [hRS]; exact alt_all fun u hu => (HWO.out u hu).1
          have hfr : flatR RS = LL := by rw [hRS, flat_all, HLL.out]
          have hge := alt_ge hal
          obtain ⟨NR, hNR⟩ : ∃ NR, NR = RS.length := ⟨_, rfl⟩
          have hnr1 : NR ≤ nl := by
            have h := flat_ge (rs := RS) fun r hr => Nat.le_trans hs1 (hge r hr)
            rw [hfr, ← HNL.out] at h
            rw [hNR]; exact h
          have HAL := Lib.hid hal; have HFR := Lib.hid hfr; have HRS := Lib.hid hRS; have HNR := Lib.hid hNR; have HGE := Lib.hid hge
          clear hRS hal hfr hge hNR
          obtain ⟨iF, hiF, hiF0, hiF1, hiF2⟩ := info_parts info37
          obtain ⟨M4, hM4⟩ : ∃ M4, M4 = W4.heap.size := ⟨_, rfl⟩
          have HM4 := Lib.hid hM4
          have hst : W4.ownsRow M4 56 1 (.slice none 0 0) 0 (flts []) := ⟨by simp [flts], .inl ⟨rfl, rfl⟩⟩
          have HST := Lib.hid hst
          clear hM4 hst
          go_wp2_with fail
          go_loopg [15, 22, 23] NR (fun g s15 s22 s23 wr => ∃ (j P LN : Nat) (QL : List Nat), j + g = NR ∧ s22 = .int .i64 j ∧ s23 = .int .i64 P ∧ Hid (P = (flatR (RS.take j)).length) ∧ Hid (LN = QL.length) ∧ Hid (QL = flatR (looseR bys sz (RS.take j))) ∧ Hid (wr.ownsRow M4 56 1 s15 LN (flts QL)) ∧ Hid (Below M4 W4 wr))
          case atStart => exact ⟨0, 0, 0, [], by omega, rfl, rfl, rfl, rfl, rfl, HST.out, Below.refl _ _⟩
          case round =>
            clear HST
            obtain ⟨j, P, LN, QL, hj, rfl, rfl, hP, hLN, hQL, hown, hb⟩ := hrel
            have hmz : M4 ≤ wr.heap.size := by have h1 := hb.out.size; have h2 := HM4.out; omega
            have hbW : Below W4.heap.size W4 wr := HM4.out ▸ hb.out
            by_cases hlt : j < NR
            · have hjr : j < RS.length := by rw [← HNR.out]; exact hlt
              obtain ⟨b, hbv⟩ : ∃ b, b = RS[j].1 := ⟨_, rfl⟩
              obtain ⟨rl, hrl⟩ : ∃ rl, rl = RS[j].2 := ⟨_, rfl⟩
              obtain ⟨hf1, hf2⟩ := flat_lt HAL.out hs1 hjr
              rw [HFR.out, ← HNL.out, ← hP.out, ← hrl] at hf1
              rw [← hrl] at hf2
              obtain ⟨vb, hvb⟩ : ∃ vb, vb = valR b := ⟨_, rfl⟩
              have hin : ∀ q, q < rl → LL[P + q]? = some vb := fun q hq => by
                have h := run_in hjr (q := q) (by rw [← hrl]; exact hq)
                rw [HFR.out, ← hP.out, ← hbv, ← hvb] at h; exact h
              have hen : P + rl < nl → LL[P + rl]? = some (valR (!b)) := fun h => by
                have h2 := run_end HAL.out hs1 hjr (by rw [HFR.out, ← hP.out, ← hrl, ← HNL.out]; exact h)
                rw [HFR.out, ← hP.out, ← hrl, ← hbv] at h2; exact h2
              have hlo := flat_loose (bys := bys) (sz := sz) hjr
              have htk := flat_take hjr
              rw [← hQL.out, ← hrl, ← hbv, ← hvb] at hlo
              rw [← hrl, ← hbv, ← hvb] at htk
              have hLNb : LN ≤ 2556 := by
                have h := loose_len hs1 bys (RS.take j) 0 fun r hr => HGE.out r (List.mem_of_mem_take hr)
                have h2 : (looseR bys sz (RS.take j)) = ((RS.take j).zipIdx 0).map (lqR bys sz) := rfl
                rw [← h2, ← hQL.out, ← hP.out, ← hLN.out] at h
                omega
              have hbi := byI_bd hs1 bys j
              obtain ⟨md, hmd⟩ : ∃ md, md = byI bys sz j := ⟨_, rfl⟩
              rw [← hmd] at hlo hbi
              obtain ⟨nm, hnm⟩ : ∃ nm, nm = ((rl : Int) + md).toNat := ⟨_, rfl⟩
              rw [← hnm] at hlo
              have hnm1 : (rl : Int) + md = (nm : Int) := by omega
              have hnm2 : nm ≤ 2 * rl := by omega
              have hP0 : LL[P]? = some vb := by have h := hin 0 (by omega); rw [Nat.add_zero] at h; exact h
              obtain ⟨b14, o14, hA14, -⟩ := (HR14.out.below hbW) P (.float .f32 vb) (by unfold flts; rw [List.getElem?_map, hP0]; rfl)
              subst hA14
              have HCE : Hid (∀ W, Below W4.heap.size W4 W → ∀ q v, LL[q]? = some v → W.cell? ⟨b14, o14 + q, none⟩ = some (.float .f32 v)) := fun W hW q v hv => by
                obtain ⟨b', o', e, hc⟩ := (HR14.out.below hW) q (.float .f32 v) (by unfold flts; rw [List.getElem?_map, hv]; rfl)
                cases e; exact hc
              have HIN := Lib.hid hin; have HEN := Lib.hid hen; have HP0 := Lib.hid hP0; have HLO := Lib.hid hlo; have HTK := Lib.hid htk; have HMD := Lib.hid hmd; have HVB := Lib.hid hvb; have HO := Lib.hid hown.out; have HB := Lib.hid hb.out; have HBW := Lib.hid hbW
              have hPn : P < nl := by omega
              have g1 : decide ((P : Int) < (nl : Int)) = true := decide_eq_true (by omega)
              have HNM := Lib.hid hnm1; have HNM2 := Lib.hid hnm2; have HF1 := Lib.hid hf1; have HF2 := Lib.hid hf2; have HBI := Lib.hid hbi
              clear hbv hrl hin hen hlo htk hmd hvb hP0 hown hb hbW hnm hnm1 hnm2 hjr hf2 hbi
              go_wp2_with fail
              clear g1
              obtain ⟨W5, hW5⟩ : ∃ W5 : World, W5 = wr := ⟨_, rfl⟩
              subst hW5
              go_loopg [24] rl (fun g s24 wx => ∃ q : Nat, 1 ≤ q ∧ q ≤ rl ∧ q + g = rl + 1 ∧ s24 = .int .i64 q ∧ Hid (Below W5.heap.size W5 wx))
              case atStart => exact ⟨1, by omega, by have := HF2.out; omega, by omega, rfl, Below.refl _ _⟩
              case round =>
                obtain ⟨q, hq1, hq, hqg, rfl, hbx⟩ := hrel
                have hbW5 : Below W4.heap.size W4 wr := HBW.out.trans (hbx.out.mono HBW.out.size)
                have HBW5 := Lib.hid hbW5
                obtain ⟨pq, hpq⟩ : ∃ pq, pq = P + q := ⟨_, rfl⟩
                have t1 : (P : Int) + (q : Int) = (pq : Int) := by omega
                have t2 : IntKind.i64.wrap (pq : Int) = (pq : Int) := IntWalk.i64_in _ (by omega)
                have HPQ := Lib.hid hpq
                clear hpq hbW5
                go_upto_region 32 with fail
                go_cut [143] from 125 to 144 (fun s143 wx => s143 = .bool (decide (q < rl)) ∧ Below wr.heap.size wr wx)
                case first =>
                  have hc0 := HCE.out wr HBW5.out P vb HP0.out
                  by_cases hqm : q < rl
                  · have hc1 := HCE.out wr HBW5.out pq vb (by rw [HPQ.out]; exact HIN.out q hqm)
                    have hpn : pq < nl := by have := HPQ.out; omega
                    have g2 : decide ((pq : Int) < (nl : Int)) = true := decide_eq_true (by omega)
                    have i2 : (pq : Int) < (nl : Int) := by omega
                    have i3 : (P : Int) < (nl : Int) := by omega
                    have ho : (FloatKind.f32.format.order vb vb == some .eq) = true := by rw [HVB.out, valR_eq]; simp
                    have HQM := Lib.hid hqm
                    clear hqm
                    go_wp2_with fail
                    go_quiet (fail)
                    go_wp2_with fail
                    go_meet
                    exact ⟨by rw [decide_eq_true HQM.out], below_drewN (Below.refl _ _) _⟩
                  · obtain rfl : rl = q := by omega
                    have HQM : Hid (decide (rl < rl) = false) := decide_eq_false (by omega)
                    by_cases hpn : pq < nl
                    · have hc1 := HCE.out wr HBW5.out pq (valR (!b)) (by rw [HPQ.out]; exact HEN.out (by rw [← HPQ.out]; exact hpn))
                      have g2 : decide ((pq : Int) < (nl : Int)) = true := decide_eq_true (by omega)
                      have i2 : (pq : Int) < (nl : Int) := by omega
                      have i3 : (P : Int) < (nl : Int) := by omega
                      obtain ⟨vn, hvn⟩ : ∃ vn, vn = valR (!b) := ⟨_, rfl⟩
                      rw [← hvn] at hc1
                      have ho : (FloatKind.f32.format.order vn vb == some .eq) = false := by rw [HVB.out, hvn, valR_eq]; cases b <;> rfl
                      clear hqm hvn
                      go_wp2_with fail
                      go_quiet (fail)
                      go_wp2_with fail
                      go_meet
                      exact ⟨by rw [HQM.out], below_drewN (Below.refl _ _) _⟩
                    · have g2 : decide ((pq : Int) < (nl : Int)) = false := decide_eq_false (by omega)
                      clear hqm
                      go_wp2_with fail
                      go_quiet (fail)
                      go_wp2_with fail
                      go_meet
                      exact ⟨by rw [HQM.out], below_drewN (Below.refl _ _) _⟩
                case rest =>
                obtain ⟨rfl, hbq⟩ := hcut
                have hbx2 : Below W5.heap.size W5 wc := hbx.out.trans (hbq.mono hbx.out.size)
                have HBX2 := Lib.hid hbx2
                clear hbq hbx hbx2 t1 t2 HPQ HBW5
                by_cases hqm : q < rl
                · rw [decide_eq_true hqm]
                  go_wp2_with fail
                  go_roundg (rl - q)
                  case measure => omega
                  case rel => exact ⟨q + 1, by omega, by omega, by omega, rfl, HBX2.out⟩
                · rw [decide_eq_false hqm]
                  obtain rfl : rl = q := by omega
                  clear hqm hqg hq hq1 HIN HEN HVB
                  go_upto_if 149 with fail
                  have HB46 : Hid (Below W4.heap.size W4 wc) := HBW.out.trans (HBX2.out.mono HBW.out.size)
                  have HBM : Hid (Below M4 W4 wc) := HB.out.trans (HBX2.out.mono hmz)
                  have HO5 := Lib.hid (owns_below HO.out HBX2.out)
                  have hmz5 : M4 ≤ wc.heap.size := Nat.le_trans hmz HBX2.out.size
                  clear HBX2 HO HB HBW hmz
                  obtain ⟨W6, hW6⟩ : ∃ W6 : World, W6 = wc := ⟨_, rfl⟩
                  subst hW6
                  go_cut [25] from 146 to 157 (fun s25 wx => s25 = .int .i64 md ∧ Below W6.heap.size W6 wx)
                  case first =>
                    by_cases hjb : j < bys.length
                    · obtain ⟨y, hy⟩ : ∃ y, y = bys[j] := ⟨_, rfl⟩
                      have hyb := HBY.out y (by rw [hy]; exact List.getElem_mem hjb)
                      obtain ⟨bB, oB, hB, hcB⟩ := (HS4.out.2.2.1.below HB46.out) j (.int .i8 y) (by unfold i8s; rw [List.getElem?_map, List.getElem?_eq_getElem hjb, hy]; rfl)
                      subst hB
                      have hm2 : y.tmod (sz : Int) = md := by rw [HMD.out, byI_in hjb, hy]
                      have hbi := HBI.out
                      have d2 : (j : Int) < (bys.length : Int) := by omega
                      have d1 : decide ((j : Int) < (bys.length : Int)) = true := decide_eq_true d2
                      have z1 : ((sz : Int) == 0) = false := by rw [beq_eq_false_iff_ne]; omega
                      have z2 : ((sz : Int) != 0) = true := by rw [bne_iff_ne]; omega
                      have z3 : ¬ (sz : Int) = 0 := by omega
                      have y1 : IntKind.i64.wrap y = y := IntWalk.i64_in _ (by omega)
                      have m1 : IntKind.i64.wrap md = md := IntWalk.i64_in _ (by omega)
                      clear hy hyb hbi hjb
                      go_wp2_with fail
                      go_meet
                      exact ⟨rfl, Below.refl _ _⟩
                    · have d1 : decide ((j : Int) < (bys.length : Int)) = false := decide_eq_false (by omega)
                      have hm2 : md = 0 := by rw [HMD.out, byI_out hjb]
                      have HM2z := Lib.hid hm2
                      have d2 : ¬ (j : Int) < (bys.length : Int) := by omega
                      clear hm2
                      go_wp2_with fail
                      go_meet
                      exact ⟨by rw [HM2z.out], Below.refl _ _⟩
                  case rest =>
                  obtain ⟨rfl, hb25⟩ := hcut
                  have HBM7 := Lib.hid (HBM.out.trans (hb25.mono hmz5))
                  have HO7 := Lib.hid (owns_below HO5.out hb25)
                  have hmz7 : M4 ≤ wc.heap.size := Nat.le_trans hmz5 hb25.size
                  clear hb25 HB46 HBM HO5 hmz5
                  obtain ⟨W7, hW7⟩ : ∃ W7 : World, W7 = wc := ⟨_, rfl⟩
                  subst hW7
                  have t7 : (rl : Int) + md = (nm : Int) := HNM.out
                  have hnm2 := HNM2.out
                  have t8 : IntKind.i64.wrap (nm : Int) = (nm : Int) := IntWalk.i64_in _ (by omega)
                  go_upto_region 38 with fail
                  clear t7 t8
                  go_loopg [15, 160] nm (fun g s15 s160 wx => ∃ c : Nat, c + g = nm ∧ s160 = .int .i64 c ∧ Hid (wx.ownsRow M4 56 1 s15 (LN + c) (flts (QL ++ List.replicate c vb))) ∧ Hid (Below M4 W4 wx))
                  case atStart => exact ⟨0, by omega, rfl, by unfold Hid; rw [List.replicate_zero, List.append_nil]; exact HO7.out, HBM7.out⟩
                  case round =>
                    clear HO7 HBM7 hmz7
                    obtain ⟨c, hc, rfl, hown, hb⟩ := hrel
                    have hmz : M4 ≤ wr.heap.size := by have h1 := hb.out.size; have h2 := HM4.out; omega
                    by_cases hcl : c < nm
                    · have d1 : decide ((c : Int) < (nm : Int)) = true := decide_eq_true (by omega)
                      have hcc := HCE.out wr (HM4.out ▸ hb.out) P vb HP0.out
                      have i3 : (P : Int) < (nl : Int) := by omega
                      have HO := hown; have HB := hb
                      have hnl2 : nm ≤ 2556 := by omega
                      clear hown hb
                      go_wp2_with (at_builtin; refine wpList_append_own_at _ rfl _ _ 22 rfl M4 56 iF (.float .f32 0) 1 4 Tryz.underlying22 hiF hiF0 hiF1 hiF2 rfl (by decide) _ (LN + c) (flts (QL ++ List.replicate c vb)) rfl (HO.out.alloc _) ⟨wr.heap.size, 0, none⟩ 1 1 [.float .f32 vb] rfl rfl (news1 _ _ _ _ rfl) (by simp [Value.oneCell']) (by unfold maxLen; omega) (by omega) (by simp; omega) ?_; intro v' w1 hown' hgrow _ hat2)
                      go_roundg (nm - (c + 1))
                      case measure => omega
                      case rel =>
                        refine ⟨c + 1, by omega, rfl, ?_, Below.app HB.out hmz HO.out hgrow⟩
                        have h := hown'
                        unfold Hid
                        rw [List.replicate_succ', ← List.append_assoc]
                        unfold flts at h ⊢
                        rw [List.map_append]
                        exact h
                    · obtain rfl : nm = c := by omega
                      have d1 : decide ((nm : Int) < (nm : Int)) = false := decide_eq_false (by omega)
                      obtain ⟨prl, hprl⟩ : ∃ prl, prl = P + rl := ⟨_, rfl⟩
                      have t9 : (P : Int) + (rl : Int) = (prl : Int) := by omega
                      have t10 : IntKind.i64.wrap (prl : Int) = (prl : Int) := IntWalk.i64_in _ (by omega)
                      have HPRL := Lib.hid hprl
                      clear hprl hcl
                      go_wp2_with fail
                      go_roundg (NR - (j + 1))
                      case measure => omega
                      case rel =>
                        refine ⟨j + 1, prl, LN + nm, QL ++ List.replicate nm vb, by omega, rfl, rfl, ?_, ?_, ?_, hown.out, hb.out⟩
                        · unfold Hid
                          rw [HPRL.out, HTK.out, List.length_append, List.length_replicate, ← hP.out]
                        · unfold Hid
                          rw [List.length_append, List.length_replicate, ← hLN.out]
                        · unfold Hid
                          rw [HLO.out]
            · obtain rfl : NR = j := by omega
              have htk : RS.take NR = RS := List.take_of_length_le (by rw [HNR.out]; exact Nat.le_refl _)
              have hp := hP.out
              have hq := hQL.out
              rw [htk] at hp hq
              rw [HFR.out, ← HNL.out] at hp
              obtain rfl : nl = P := hp.symm
              obtain ⟨A15, c15, hv15, hr15⟩ := owned_slice hown.out
              subst hv15
              obtain ⟨sd, hsd⟩ : ∃ sd : Int, sd = (sz : Int) := ⟨_, rfl⟩
              have hWok : ∀ u ∈ WS, okW u := fun u hu => (HWO.out u hu).1
              have hh1 : heardL LL (sz : Int) = WS.map str := by rw [HLL.out]; exact heard_all hs1 hWok
              have hh2 : heardL QL (sz : Int) = WS.map str := by
                rw [hq]
                refine heard_near hs1 hWok ?_
                rw [← HRS.out]
                exact near_loose hs1 bys RS 0 HGE.out
              have hL2 : LN ≤ 2556 := by
                have h := loose_len hs1 bys RS 0 HGE.out
                have h2 : looseR bys sz RS = (RS.zipIdx 0).map (lqR bys sz) := rfl
                rw [← h2, ← hq, HFR.out, ← HNL.out, ← hLN.out] at h
                omega
              have hs2 : sampsI QL = 0 := by
                rw [hq]
                refine flat_samp ?_
                rw [← hq, ← hLN.out]; omega
              have hs3 : sampsI LL = 0 := by
                rw [← HFR.out]
                refine flat_samp ?_
                rw [HFR.out, ← HNL.out]; omega
              have hwl : (WS.map str).length = n := by rw [List.length_map]; exact HWL.out
              obtain ⟨SS, hSS⟩ : ∃ SS, SS = WS.map str := ⟨_, rfl⟩
              rw [← hSS] at hh1 hh2 hwl HR7b
              have HEA : Hid (∀ W GA gc m (XL : List Nat), Aw W → Rd W GA (flts XL) → m = XL.length → m ≤ 4096 → sampsI XL = 0 → heardL XL (sz : Int) = SS → Calls Tryz.prog 26 #[.slice GA m gc, .int .i64 (sz : Int)] W fun e w' => ∃ HA hc, e = .returned (.tuple #[.slice HA n hc, .int .i64 0]) ∧ Rd w' HA (strs SS) ∧ Below W.heap.size W w') := fun W GA gc m XL hA hG hm hm2 h0 hh => by
                refine (heard_ok GA m gc XL (sz : Int) W hG hm (by omega) h0 (by omega) hA.tz).mono ?_
                rintro e w' ⟨v, h1, h2⟩
                rw [hh, hwl, if_neg (by omega)] at h1
                obtain ⟨rfl, h3⟩ := h1
                obtain ⟨HA, hc, rfl, hr⟩ := owned_slice h3
                exact ⟨HA, hc, rfl, hr, h2⟩
              have HFL : Hid (∀ W, Rd W A14 (flts LL) → Calls Tryz.prog 27 #[.slice A14 nl c14] W fun e w' => ∃ GA gc, e = .returned (.slice GA nl gc) ∧ Rd w' GA (flts LL) ∧ Below W.heap.size W w') := fun W h => by
                refine (floats_any A14 nl c14 LL W h HNL.out HCAP.out.2 (by rw [← HNL.out]; omega)).mono ?_
                rintro e w' ⟨v, rfl, ho, hb2⟩
                rw [← HNL.out] at ho
                obtain ⟨GA, gc, rfl, hr⟩ := owned_slice ho
                exact ⟨GA, gc, rfl, hr, hb2⟩
              have hb4 : Below W4.heap.size W4 wr := hbW
              have HS8 := Lib.hid (HS4.out.keep hb4); have HR7 := Lib.hid (HR7b.out.below hb4); have HR14c := Lib.hid (HR14.out.below hb4); have HR15 := Lib.hid hr15
              have HH1 := Lib.hid hh1; have HH2 := Lib.hid hh2; have HS2 := Lib.hid hs2; have HS3 := Lib.hid hs3; have HLN := hLN; have HSS := Lib.hid hSS; have HWS := Lib.hid hwl
              have d1 : decide ((nl : Int) < (nl : Int)) = false := decide_eq_false (by omega)
              clear hown hb hbW hb4 hr15 hh1 hh2 hs2 hs3 hLN hSS hwl hq hQL hP htk hlt hWok HR14 HR7b HS4 HAL HFR HRS HGE HNR hsd sd
              obtain ⟨W8, hW8⟩ : ∃ W8 : World, W8 = wr := ⟨_, rfl⟩
              subst hW8
              go_upto_region 42 with fail
              clear d1
              go_cut [26, 27] from 175 to 182 (fun s26 s27 wx => ∃ HA hc, s26 = .slice HA n hc ∧ s27 = .int .i64 0 ∧ Rd wx HA (strs SS) ∧ Below W8.heap.size W8 wx)
              case first =>
                go_wp2_with (first
                  | (go_at_call 27; refine (HFL.out _ HR14c.out).mono ?_; rintro e w1 ⟨GA, gc, rfl, hga, hb1⟩; have HGA := Lib.hid hga; have HB1 := Lib.hid hb1; clear hga hb1)
                  | (go_at_call 26; refine (HEA.out _ _ _ _ LL (HS8.out.keep HB1.out).2.2.2.1 HGA.out HNL.out (by omega) HS3.out HH1.out).mono ?_; rintro e w2 ⟨HA, hc, rfl, hha, hb2⟩; have HHA := Lib.hid hha; have HB2 := Lib.hid hb2; clear hha hb2))
                go_meet
                exact ⟨HA, hc, rfl, rfl, HHA.out, HB1.out.trans (HB2.out.mono HB1.out.size)⟩
              case rest =>
              obtain ⟨H1, h1c, rfl, rfl, hha, hb⟩ := hcut
              have HS9 := Lib.hid (HS8.out.keep hb); have HR7' := Lib.hid (HR7.out.below hb); have HR15' := Lib.hid (HR15.out.below hb); have HH1A := Lib.hid hha
              clear HS8 HR7 HR15 HR14c hha hb HFL HH1 HS3
              have HR7 := HR7'; have HR15 := HR15'
              clear HR7' HR15'
              obtain ⟨W9, hW9⟩ : ∃ W9 : World, W9 = wc := ⟨_, rfl⟩
              subst hW9
              go_upto_region 43 with fail
              go_cut [28, 29] from 182 to 188 (fun s28 s29 wx => ∃ HA hc, s28 = .slice HA n hc ∧ s29 = .int .i64 0 ∧ Rd wx HA (strs SS) ∧ Below W9.heap.size W9 wx)
              case first =>
                go_wp2_with (go_at_call 26; refine (HEA.out _ _ _ _ QL HS9.out.2.2.2.1 HR15.out HLN.out (by omega) HS2.out HH2.out).mono ?_; rintro e w2 ⟨HA, hc, rfl, hha, hb2⟩; have HHA := Lib.hid hha; have HB2 := Lib.hid hb2; clear hha hb2)
                go_meet
                exact ⟨HA, hc, rfl, rfl, HHA.out, HB2.out⟩
              case rest =>
              obtain ⟨H2, h2c, rfl, rfl, hha, hb⟩ := hcut
              have HS10 := Lib.hid (HS9.out.keep hb); have HR7' := Lib.hid (HR7.out.below hb); have HH1A' := Lib.hid (HH1A.out.below hb); have HH2A := Lib.hid hha
              clear HS9 HR7 HR15 HH1A hha hb HEA HH2 HS2 HLN
              have HR7 := HR7'; have HH1A := HH1A'
              clear HR7' HH1A'
              obtain ⟨W10, hW10⟩ : ∃ W10 : World, W10 = wc := ⟨_, rfl⟩
              subst hW10
              have HSW : Hid (∀ W HA hc, Rd W HA (strs SS) → Rd W A7 (strs SS) → Calls Tryz.prog 28 #[.slice HA n hc, .slice A7 n c7] W fun e w' => e = .returned (.bool true) ∧ Below W.heap.size W w') := fun W HA hc h1 h2 => by
                refine (sameWords_any HA A7 n n hc c7 SS SS W h1 h2 HWS.out.symm HWS.out.symm (by rw [HWS.out]; omega)).mono ?_
                rintro e w' ⟨rfl, q, rfl⟩
                exact ⟨by rw [sameW_eq]; simp, below_drewN (Below.refl _ _) q⟩
              go_upto_region 44 with fail
              go_cut [205] from 188 to 206 (fun s205 wx => s205 = .bool false ∧ Below W10.heap.size W10 wx)
              case first =>
                go_wp2_with (go_at_call 28; first | (have hz := HB1.out; clear hz; refine (HSW.out _ _ _ (HH2A.out.below HB1.out) (HR7.out.below HB1.out)).mono ?_; rintro e w2 ⟨rfl, hb2⟩; have HB2 := Lib.hid (HB1.out.trans (hb2.mono HB1.out.size)); clear hb2) | (refine (HSW.out _ _ _ HH1A.out HR7.out).mono ?_; rintro e w1 ⟨rfl, hb1⟩; have HB1 := Lib.hid hb1; clear hb1))
                go_meet
                exact ⟨rfl, HB2.out⟩
              case rest =>
              obtain ⟨rfl, hb⟩ := hcut
              have HS11 := Lib.hid (HS10.out.keep hb); have HR7' := Lib.hid (HR7.out.below hb)
              clear HS10 HR7 HH1A HH2A hb HSW HWS
              have HR7 := HR7'
              clear HR7'
              go_wp2_with fail
              obtain ⟨W11, hW11⟩ : ∃ W11 : World, W11 = wc := ⟨_, rfl⟩
              subst hW11
              have HGW : Hid (∀ i, i < n → ∃ u, WS.getD i [] = u ∧ okW u ∧ (keyedL 1 u).length ≤ 71 ∧ (strs SS)[i]? = some (.string (str u))) := fun i hi => by
                have hiw : i < WS.length := by rw [HWL.out]; exact hi
                have ho := HWO.out _ (List.getElem_mem hiw)
                refine ⟨WS[i], by rw [List.getD_eq_getElem?_getD, List.getElem?_eq_getElem hiw]; rfl, ho.1, keyed_71 ho.2 ho.1.2, ?_⟩
                unfold strs
                rw [List.getElem?_map, HSS.out, List.getElem?_map, List.getElem?_eq_getElem hiw]; rfl
              go_loopg [208] n (fun g s208 wr => ∃ i : Nat, i + g = n ∧ s208 = .int .i64 i ∧ Hid (Below W11.heap.size W11 wr))
              case atStart => exact ⟨0, by omega, rfl, Below.refl _ _⟩
              case round =>
                obtain ⟨i, hi, rfl, hb⟩ := hrel
                by_cases hlt : i < n
                · have d1 : decide ((i : Int) < (n : Int)) = true := decide_eq_true (by omega)
                  go_wp2_with fail
                  clear d1
                  obtain ⟨W12, hW12⟩ : ∃ W12 : World, W12 = wr := ⟨_, rfl⟩
                  subst hW12
                  have HB := Lib.hid hb.out
                  clear hb
                  go_loopg [212] i (fun g s212 wr => ∃ k : Nat, k + g = i ∧ s212 = .int .i64 k ∧ Hid (Below W12.heap.size W12 wr))
                  case atStart => exact ⟨0, by omega, rfl, Below.refl _ _⟩
                  case round =>
                    obtain ⟨k, hk, rfl, hb⟩ := hrel
                    have hbb : Below W11.heap.size W11 wr := HB.out.trans (hb.out.mono HB.out.size)
                    by_cases hkl : k < i
                    · have d1 : decide ((k : Int) < (i : Int)) = true := decide_eq_true (by omega)
                      obtain ⟨u, hgu, hu1, hu2, hu3⟩ := HGW.out i hlt
                      obtain ⟨v, hgv, hv1, hv2, hv3⟩ := HGW.out k (by omega)
                      have i1 : (i : Int) < (n : Int) := by omega
                      have i2 : (k : Int) < (n : Int) := by omega
                      obtain ⟨ku, hku⟩ : ∃ ku, ku = (keyedL 1 u).length := ⟨_, rfl⟩
                      obtain ⟨kv, hkv⟩ : ∃ kv, kv = (keyedL 1 v).length := ⟨_, rfl⟩
                      have HKU : Hid (∀ W, Aw W → Calls Tryz.prog 25 #[.string (str u), .int .i64 1] W fun e w' => ∃ g c, e = .returned (.tuple #[.slice (some ⟨g, 0, none⟩) ku c, .int .i64 0]) ∧ Rd w' (some ⟨g, 0, none⟩) (flts (keyedL 1 u)) ∧ Below W.heap.size W w') := fun W hA => by
                        have h := HKY.out W i 1 hlt (Nat.le_refl _) (by omega) hA 1 rfl
                        rw [hgu, ← hku] at h
                        exact h
                      have HKV : Hid (∀ W, Aw W → Calls Tryz.prog 25 #[.string (str v), .int .i64 1] W fun e w' => ∃ g c, e = .returned (.tuple #[.slice (some ⟨g, 0, none⟩) kv c, .int .i64 0]) ∧ Rd w' (some ⟨g, 0, none⟩) (flts (keyedL 1 v)) ∧ Below W.heap.size W w') := fun W hA => by
                        have h := HKY.out W k 1 (by omega) (Nat.le_refl _) (by omega) hA 1 rfl
                        rw [hgv, ← hkv] at h
                        exact h
                      obtain ⟨bb, hbbv⟩ : ∃ bb, bb = sameF (keyedL 1 u) (keyedL 1 v) := ⟨_, rfl⟩
                      have hpe := pair_eq hu1 hv1
                      rw [← hbbv] at hpe
                      have HSF : Hid (∀ W g c g' c', Rd W (some ⟨g, 0, none⟩) (flts (keyedL 1 u)) → Rd W (some ⟨g', 0, none⟩) (flts (keyedL 1 v)) → Calls Tryz.prog 29 #[.slice (some ⟨g, 0, none⟩) ku c, .slice (some ⟨g', 0, none⟩) kv c'] W fun e w' => e = .returned (.bool bb) ∧ Below W.heap.size W w') := fun W g c g' c' h1 h2 => by
                        refine (sameSamples_any _ _ ku kv c c' _ _ W h1 h2 hku hkv (by omega)).mono ?_
                        rintro e w' ⟨rfl, q, rfl⟩
                        exact ⟨by rw [hbbv], below_drewN (Below.refl _ _) q⟩
                      have HS12 := Lib.hid (HS11.out.keep hbb); have HR12 := Lib.hid (HR7.out.below hbb)
                      obtain ⟨b7, o7, hA7, hc7⟩ := HR12.out i _ hu3
                      subst hA7
                      have hc7' : wr.cell? ⟨b7, o7 + k, none⟩ = some (.string (str v)) := by
                        obtain ⟨b', o', e, h⟩ := HR12.out k _ hv3
                        cases e; exact h
                      obtain ⟨su, hsu⟩ : ∃ su, su = str u := ⟨_, rfl⟩
                      obtain ⟨sv, hsv⟩ : ∃ sv, sv = str v := ⟨_, rfl⟩
                      rw [← hsu] at hu3 hc7 HKU hpe; rw [← hsv] at hv3 hc7' HKV hpe
                      have HU3 := Lib.hid hu3; have HV3 := Lib.hid hv3; have HPE := Lib.hid hpe.symm; have HB2 := Lib.hid hb.out
                      clear hgu hgv hu1 hu2 hu3 hv1 hv2 hv3 hku hkv hbbv hpe hbb hb hsu hsv
                      obtain ⟨W13, hW13⟩ : ∃ W13 : World, W13 = wr := ⟨_, rfl⟩
                      subst hW13
                      go_upto_region 53 with (go_at_call 25; refine (HKU.out _ HS12.out.2.2.2.1).mono ?_; rintro e w1 ⟨ga, ca, rfl, hra, hb1⟩; have HRA := Lib.hid hra; have HB1 := Lib.hid hb1; have HS13 := Lib.hid (HS12.out.keep hb1); have HR13 := Lib.hid (HR12.out.below hb1); clear hra hb1 hc7 hc7')
                      have hc8 : w1.cell? ⟨b7, o7 + i, none⟩ = some (.string su) := by
                        obtain ⟨b', o', e, h⟩ := HR13.out i _ HU3.out
                        cases e; exact h
                      have hc8' : w1.cell? ⟨b7, o7 + k, none⟩ = some (.string sv) := by
                        obtain ⟨b', o', e, h⟩ := HR13.out k _ HV3.out
                        cases e; exact h
                      go_upto_region 54 with (go_at_call 25; refine (HKV.out _ HS13.out.2.2.2.1).mono ?_; rintro e w2 ⟨gb, cb, rfl, hrb, hb2⟩; have HRA2 := Lib.hid (HRA.out.below hb2); have HRB := Lib.hid hrb; have HB3 := Lib.hid (HB1.out.trans (hb2.mono HB1.out.size)); have HR14 := Lib.hid (HR13.out.below hb2); clear hrb hb2 hc8 hc8')
                      have HB4 := Lib.hid (HB2.out.trans (HB3.out.mono HB2.out.size))
                      have hc9 : w2.cell? ⟨b7, o7 + i, none⟩ = some (.string su) := by
                        obtain ⟨b', o', e, h⟩ := HR14.out i _ HU3.out
                        cases e; exact h
                      have hc9' : w2.cell? ⟨b7, o7 + k, none⟩ = some (.string sv) := by
                        obtain ⟨b', o', e, h⟩ := HR14.out k _ HV3.out
                        cases e; exact h
                      obtain ⟨W14, hW14⟩ : ∃ W14 : World, W14 = w2 := ⟨_, rfl⟩
                      subst hW14
                      go_cut [251] from 231 to 252 (fun s251 wx => s251 = .bool false ∧ Below W14.heap.size W14 wx)
                      case first =>
                        refine wp_region_held_drew (S := fun w' => w'.cell? ⟨b7, o7 + i, none⟩ = some (.string su) ∧ w'.cell? ⟨b7, o7 + k, none⟩ = some (.string sv) ∧ Below W14.heap.size W14 w') (by kernel_rfl) ?_ (fun hHeld => ?_)
                        · exact ⟨hc9, hc9', (Below.refl _ _).drew⟩
                        refine wpAnyH_take (i := 0) (oi := ⟨some 231, _, _, _, _, _⟩) (v := ?_) rfl (by kernel_rfl) (by kernel_rfl) (by kernel_rfl) (fun _ _ _ h => h) (Or.inl ⟨by kernel_rfl, ?_⟩) hHeld ?_
                        rotate_left
                        · intro w1 hSw; (try dsimp only at hSw); go_simp <;> with_reducible rfl
                        try simp only [Act.put, List.setIfInBounds_toArray, List.set_cons_zero, List.set_cons_succ]
                        refine wpAnyH_take (i := 1) (oi := ⟨some 232, _, _, _, _, _⟩) (v := ?_) rfl (by kernel_rfl) (by kernel_rfl) (by kernel_rfl) (fun _ _ _ h => h) (Or.inl ⟨by kernel_rfl, ?_⟩) hHeld ?_
                        rotate_left
                        · intro w1 hSw; (try dsimp only at hSw); go_simp <;> with_reducible rfl
                        try simp only [Act.put, List.setIfInBounds_toArray, List.set_cons_zero, List.set_cons_succ]
                        refine wpAnyH_take (i := 2) (oi := ⟨some 233, _, _, _, _, _⟩) (v := ?_) rfl (by kernel_rfl) (by kernel_rfl) (by kernel_rfl) (fun _ _ _ h => h) (Or.inl ⟨by kernel_rfl, ?_⟩) hHeld ?_
                        rotate_left
                        · intro w1 hSw; (try dsimp only at hSw); go_simp <;> with_reducible rfl
                        try simp only [Act.put, List.setIfInBounds_toArray, List.set_cons_zero, List.set_cons_succ]
                        refine wpAnyH_take (i := 3) (oi := ⟨some 234, _, _, _, _, _⟩) (v := ?_) rfl (by kernel_rfl) (by kernel_rfl) (by kernel_rfl) (fun _ _ _ h => h) (Or.inl ⟨by kernel_rfl, ?_⟩) hHeld ?_
                        rotate_left
                        · intro w1 hSw; (try dsimp only at hSw); go_simp <;> with_reducible rfl
                        try simp only [Act.put, List.setIfInBounds_toArray, List.set_cons_zero, List.set_cons_succ]
                        refine wpAnyH_take (i := 4) (oi := ⟨some 235, _, _, _, _, _⟩) (v := ?_) rfl (by kernel_rfl) (by kernel_rfl) (by kernel_rfl) (fun _ _ _ h => h) (Or.inl ⟨by kernel_rfl, ?_⟩) hHeld ?_
                        rotate_left
                        · intro w1 hSw; (try dsimp only at hSw); go_simp <;> with_reducible rfl
                        try simp only [Act.put, List.setIfInBounds_toArray, List.set_cons_zero, List.set_cons_succ]
                        refine wpAnyH_take (i := 5) (oi := ⟨some 236, _, _, _, _, _⟩) (v := ?_) rfl (by kernel_rfl) (by kernel_rfl) (by kernel_rfl) (fun _ _ _ h => h) (Or.inl ⟨by kernel_rfl, ?_⟩) hHeld ?_
                        rotate_left
                        · intro w1 hSw; (try dsimp only at hSw); go_simp <;> with_reducible rfl
                        try simp only [Act.put, List.setIfInBounds_toArray, List.set_cons_zero, List.set_cons_succ]
                        refine wpAnyH_take (i := 6) (oi := ⟨some 237, _, _, _, _, _⟩) (v := ?_) rfl (by kernel_rfl) (by kernel_rfl) (by kernel_rfl) (fun _ _ _ h => h) (Or.inl ⟨by kernel_rfl, ?_⟩) hHeld ?_
                        rotate_left
                        · intro w1 hSw; (try dsimp only at hSw); go_simp <;> with_reducible rfl
                        try simp only [Act.put, List.setIfInBounds_toArray, List.set_cons_zero, List.set_cons_succ]
                        refine wpAnyH_take (i := 7) (oi := ⟨some 238, _, _, _, _, _⟩) (v := ?_) rfl (by kernel_rfl) (by kernel_rfl) (by kernel_rfl) (fun _ _ _ h => h) (Or.inl ⟨by kernel_rfl, ?_⟩) hHeld ?_
                        rotate_left
                        · intro w1 hSw; (try dsimp only at hSw); go_simp <;> with_reducible rfl
                        try simp only [Act.put, List.setIfInBounds_toArray, List.set_cons_zero, List.set_cons_succ]
                        refine wpAnyH_take (i := 8) (oi := ⟨some 239, _, _, _, _, _⟩) (v := ?_) rfl (by kernel_rfl) (by kernel_rfl) (by kernel_rfl) (fun _ _ _ h => h) (Or.inl ⟨by kernel_rfl, ?_⟩) hHeld ?_
                        rotate_left
                        · intro w1 hSw; (try dsimp only at hSw); go_simp <;> with_reducible rfl
                        try simp only [Act.put, List.setIfInBounds_toArray, List.set_cons_zero, List.set_cons_succ]
                        refine wpAnyH_take (i := 9) (oi := ⟨some 240, _, _, _, _, _⟩) (v := ?_) rfl (by kernel_rfl) (by kernel_rfl) (by kernel_rfl) (fun _ _ _ h => h) (Or.inl ⟨by kernel_rfl, ?_⟩) hHeld ?_
                        rotate_left
                        · intro w1 hSw; (try dsimp only at hSw); go_simp <;> with_reducible rfl
                        try simp only [Act.put, List.setIfInBounds_toArray, List.set_cons_zero, List.set_cons_succ]
                        refine wpAnyH_take (i := 10) (oi := ⟨some 241, _, _, _, _, _⟩) (v := ?_) rfl (by kernel_rfl) (by kernel_rfl) (by kernel_rfl) (fun _ _ _ h => h) (Or.inl ⟨by kernel_rfl, ?_⟩) hHeld ?_
                        rotate_left
                        · intro w1 hSw; (try dsimp only at hSw); go_simp <;> with_reducible rfl
                        try simp only [Act.put, List.setIfInBounds_toArray, List.set_cons_zero, List.set_cons_succ]
                        refine wpAnyH_take (i := 11) (oi := ⟨some 242, _, _, _, _, _⟩) (v := ?_) rfl (by kernel_rfl) (by kernel_rfl) (by kernel_rfl) (fun _ _ _ h => h) (Or.inl ⟨by kernel_rfl, ?_⟩) hHeld ?_
                        rotate_left
                        · intro w1 hSw; (try dsimp only at hSw); go_simp <;> with_reducible rfl
                        try simp only [Act.put, List.setIfInBounds_toArray, List.set_cons_zero, List.set_cons_succ]
                        refine wpAnyH_take (i := 12) (oi := ⟨some 243, _, _, _, _, _⟩) (v := ?_) rfl (by kernel_rfl) (by kernel_rfl) (by kernel_rfl) (fun _ _ _ h => h) (Or.inl ⟨by kernel_rfl, ?_⟩) hHeld ?_
                        rotate_left
                        · intro w1 hSw; (try dsimp only at hSw); go_simp <;> with_reducible rfl
                        try simp only [Act.put, List.setIfInBounds_toArray, List.set_cons_zero, List.set_cons_succ]
                        refine wpAnyH_take (i := 13) (oi := ⟨some 244, _, _, _, _, _⟩) (v := ?_) rfl (by kernel_rfl) (by kernel_rfl) (by kernel_rfl) (fun _ _ _ h => h) (Or.inl ⟨by kernel_rfl, ?_⟩) hHeld ?_
                        rotate_left
                        · intro w1 hSw; (try dsimp only at hSw); go_simp <;> with_reducible rfl
                        try simp only [Act.put, List.setIfInBounds_toArray, List.set_cons_zero, List.set_cons_succ]
                        refine wpAnyH_take (i := 14) (oi := ⟨some 245, _, _, _, _, _⟩) (v := ?_) rfl (by kernel_rfl) (by kernel_rfl) (by kernel_rfl) (fun _ _ _ h => h) (Or.inl ⟨by kernel_rfl, ?_⟩) hHeld ?_
                        rotate_left
                        · intro w1 hSw; (try dsimp only at hSw); go_simp <;> with_reducible rfl
                        try simp only [Act.put, List.setIfInBounds_toArray, List.set_cons_zero, List.set_cons_succ]
                        refine wpAnyH_take (i := 15) (oi := ⟨some 246, _, _, _, _, _⟩) (v := ?_) rfl (by kernel_rfl) (by kernel_rfl) (by kernel_rfl) (fun _ _ _ h => h) (Or.inl ⟨by kernel_rfl, ?_⟩) hHeld ?_
                        rotate_left
                        · intro w1 hSw; (try dsimp only at hSw); go_simp <;> with_reducible rfl
                        try simp only [Act.put, List.setIfInBounds_toArray, List.set_cons_zero, List.set_cons_succ]
                        refine wpAnyH_take (i := 16) (oi := ⟨some 247, _, _, _, _, _⟩) (v := ?_) rfl (by kernel_rfl) (by kernel_rfl) (by kernel_rfl) (fun _ _ _ h => h) (Or.inl ⟨by kernel_rfl, ?_⟩) hHeld ?_
                        rotate_left
                        · intro w1 hSw; (try dsimp only at hSw); go_simp <;> with_reducible rfl
                        try simp only [Act.put, List.setIfInBounds_toArray, List.set_cons_zero, List.set_cons_succ]
                        refine wpAnyH_take (i := 17) (oi := ⟨some 248, _, _, _, _, _⟩) (v := ?_) rfl (by kernel_rfl) (by kernel_rfl) (by kernel_rfl) (fun _ _ _ h => h) (Or.inl ⟨by kernel_rfl, ?_⟩) hHeld ?_
                        rotate_left
                        · intro w1 hSw; (try dsimp only at hSw); go_simp <;> with_reducible rfl
                        try simp only [Act.put, List.setIfInBounds_toArray, List.set_cons_zero, List.set_cons_succ]
                        refine wpAnyH_ready (rs := [18]) (by kernel_rfl) (by simp) ?_
                        refine AllReadyH.cons rfl (fun K hK => ?_) AllReadyH.nil
                        go_simp
                        go_at_call 29
                        refine (HSF.out _ _ _ _ _ (HRA2.out.below hHeld.2.2) (HRB.out.below hHeld.2.2)).mono ?_
                        rintro e v3 ⟨rfl, hb3⟩
                        try go_simp
                        refine hK.out _ _ ?_ (fun hHeld => ?_)
                        · exact ⟨keepC hHeld.1 hb3, keepC hHeld.2.1 hb3, hHeld.2.2.trans ((hb3).mono hHeld.2.2.size)⟩
                        clear hK K
                        try simp only [Act.put, List.setIfInBounds_toArray, List.set_cons_zero, List.set_cons_succ]
                        refine wpAnyH_take (i := 19) (oi := ⟨some 250, _, _, _, _, _⟩) (v := ?_) rfl (by kernel_rfl) (by kernel_rfl) (by kernel_rfl) (fun _ _ _ h => h) (Or.inl ⟨by kernel_rfl, ?_⟩) hHeld ?_
                        rotate_left
                        · intro w1 hSw; (try dsimp only at hSw); go_simp <;> with_reducible rfl
                        try simp only [Act.put, List.setIfInBounds_toArray, List.set_cons_zero, List.set_cons_succ]
                        refine wpAnyH_take (i := 20) (oi := ⟨some 251, _, _, _, _, _⟩) (v := ?_) rfl (by kernel_rfl) (by kernel_rfl) (by kernel_rfl) (fun _ _ _ h => h) (Or.inl ⟨by kernel_rfl, ?_⟩) hHeld ?_
                        rotate_left
                        · intro w1 hSw; (try dsimp only at hSw); go_simp <;> with_reducible rfl
                        try simp only [Act.put, List.setIfInBounds_toArray, List.set_cons_zero, List.set_cons_succ]
                        refine wpAnyH_done (by kernel_rfl) ?_ _
                        go_wp2_with fail
                        go_meet
                        exact ⟨by rw [HPE.out]; simp, hHeld.2.2⟩
                      case rest =>
                      obtain ⟨rfl, hb5⟩ := hcut
                      have HB5 := Lib.hid (HB4.out.trans (hb5.mono HB4.out.size))
                      clear hb5 hc9 hc9'
                      go_wp2_with fail
                      go_roundg (i - (k + 1))
                      case measure => omega
                      case rel => exact ⟨k + 1, by omega, rfl, HB5.out⟩
                    · obtain rfl : k = i := by omega
                      have HB2 := Lib.hid hbb
                      have d1 : decide ((k : Int) < (k : Int)) = false := decide_eq_false (by omega)
                      clear hb hbb
                      go_wp2_with fail
                      go_roundg (n - (k + 1))
                      case measure => omega
                      case rel => exact ⟨k + 1, by omega, rfl, HB2.out⟩
                · obtain rfl : i = n := by omega
                  have d1 : decide ((i : Int) < (i : Int)) = false := decide_eq_false (by omega)
                  have HS12 := Lib.hid (HS11.out.keep hb.out)
                  clear hb
                  go_wp2_with (go_at_call 8; refine (haw _ HS12.out.2.2.2.1).mono ?_; rintro e w5 ⟨rfl, hb5⟩; have HS13 := Lib.hid (HS12.out.keep hb5); clear hb5)
                  go_ret
                  exact ⟨rfl, HS13.out.2.2.2.2⟩
end Go.Proofs.YtoclnlimnjnbkaaGreatDoor
