import Derived.Test.YtkfkmnfejeocpaaGreatDoorM32
namespace Go.Proofs.YtkfkmnfejeocpaaGreatDoor
set_option linter.all false
open Go.RowKit Go.Fl
theorem u8_nat {n : Int} (h : IntKind.u8.has n) : ∃ m : Nat, n = (m : Int) ∧ m < 256 := by
 have h2 : 0 ≤ n ∧ n ≤ 255 := h
 exact ⟨n.toNat, by omega, by omega⟩
theorem pS_zero (st sp : Int) : pS st sp 0 = st := by unfold pS; simp
theorem pM_whole {n : Nat} {ms : List Mk} (h : MkOk n ms) (hn : n ≤ 4096) : pM ms 0 n = ms := cutM_whole h hn
theorem unitI_zero : unitI 0 = 0 := by kernel_rfl
set_option maxRecDepth 100000 in
set_option maxHeartbeats 1000000 in
theorem recordCut_ok (haw : AwakeOk) (st sp : Int) (A B : Option Addr) (c d : Nat) (xs : List Nat) (ms : List Mk) (n0 n1 n2 : Nat) (hn0 : n0 < 256) (hn1 : n1 < 256) (hn2 : n2 < 256) (w : World) (haW : Aw w) (hA : Rd w A (flts xs)) (hB : Rd w B (markC ms)) (hca : A = none → c = 0) (hlc : xs.length ≤ c) (hx : xs.length ≤ 9223372036854775807) (hm : ms.length ≤ 9223372036854775807) :
 Calls Tryz.prog 5 #[.agg #[.int .i64 st, .int .i64 sp, .slice A xs.length c, .slice B ms.length d], .agg #[.int .u8 (n0 : Int), .int .u8 (n1 : Int), .int .u8 (n2 : Int)]] w fun e w' => e = .returned (.bool true) ∧ Below w.heap.size w w' := by
 cases hs : shortRB xs.length ms
 · exact cuts_far1 haw st sp A B c d xs ms n0 n1 n2 w haW hA hB hlc hx hm hs
 obtain ⟨hl4, hm17⟩ := shortRB_len hs
 by_cases hl : 30 < xs.length
 · exact cuts_far2 haw st sp A B c d xs ms n0 n1 n2 w haW hA hB hlc hx hm hs hl hl4
 by_cases hrec : recI st sp xs ms = 0
 case neg => exact cuts_far3 haw st sp A B c d xs ms n0 n1 n2 w haW hA hB hlc hx hm hs (by omega) _ rfl hrec
 have hr := recI_ok hrec
 obtain ⟨h1, h2, h4, hv, h5, h6⟩ := hr
 obtain ⟨hpl0, hpl1⟩ := mul_le_of (a := sp) (b := 1000) (c := (xs.length : Int)) (d := 30) (by omega) (by omega) (by omega) (by omega)
 by_cases hbig : 100000000 < st + sp * (xs.length : Int)
 · exact cuts_far4 haw st sp A B c d xs ms n0 n1 n2 w haW hA hB hlc hx hm hs (by omega) hrec h1 h2 _ rfl ⟨hpl0, by omega⟩ hbig
 have hok : CutOk st sp xs ms := ⟨recI_ok hrec, by omega⟩
 obtain ⟨o1, ho1, ho1l⟩ : ∃ o1 : Nat, (n0 : Int) % ((xs.length : Int) + 1) = (o1 : Int) ∧ o1 ≤ xs.length := ⟨n0 % (xs.length + 1), by rw [Int.natCast_emod, Int.natCast_add]; rfl, by have := Nat.mod_lt n0 (show 0 < xs.length + 1 by omega); omega⟩
 obtain ⟨o2, ho2, ho2l⟩ : ∃ o2 : Nat, (n1 : Int) % ((xs.length : Int) + 1) = (o2 : Int) ∧ o2 ≤ xs.length := ⟨n1 % (xs.length + 1), by rw [Int.natCast_emod, Int.natCast_add]; rfl, by have := Nat.mod_lt n1 (show 0 < xs.length + 1 by omega); omega⟩
 obtain ⟨lo, hi, hoo, hlh, hhi⟩ : ∃ lo hi : Nat, ((o1 ≤ o2 ∧ lo = o1 ∧ hi = o2) ∨ (o2 < o1 ∧ lo = o2 ∧ hi = o1)) ∧ lo ≤ hi ∧ hi ≤ xs.length := by
  by_cases h : o1 ≤ o2
  · exact ⟨o1, o2, .inl ⟨h, rfl, rfl⟩, h, ho2l⟩
  · exact ⟨o2, o1, .inr ⟨by omega, rfl, rfl⟩, by omega, ho1l⟩
 have hmw : pM ms 0 xs.length = ms := pM_whole h6 h4
 have hxw : pX xs 0 xs.length = xs := pX_whole xs
 have hCa := fun (W : World) (GA : Option Addr) (gc : Nat) (GB : Option Addr) (gd : Nat) (g : SlOk W GA gc xs GB ms) (hg : xs.length ≤ gc) => cut_part hok (f := 0) (t := lo) (by omega) (by omega) W GA GB gc gd g hg
 have hCb := fun (W : World) (GA : Option Addr) (gc : Nat) (GB : Option Addr) (gd : Nat) (g : SlOk W GA gc xs GB ms) (hg : xs.length ≤ gc) => cut_part hok (f := lo) (t := hi) hlh hhi W GA GB gc gd g hg
 have hCc := fun (W : World) (GA : Option Addr) (gc : Nat) (GB : Option Addr) (gd : Nat) (g : SlOk W GA gc xs GB ms) (hg : xs.length ≤ gc) => cut_part hok (f := hi) (t := xs.length) hhi (Nat.le_refl _) W GA GB gc gd g hg
 have hJp := fun (W : World) (A1 : Option Addr) (c1 : Nat) (B1 : Option Addr) (d1 : Nat) (A2 : Option Addr) (c2 : Nat) (B2 : Option Addr) (d2 : Nat) (g1 : SlOk W A1 c1 (pX xs 0 lo) B1 (pM ms 0 lo)) (g2 : SlOk W A2 c2 (pX xs lo hi) B2 (pM ms lo hi)) => join_part hok (f := 0) (t := lo) (u := hi) (by omega) hlh hhi W A1 B1 A2 B2 c1 d1 c2 d2 g1 g2
 have hJq := fun (W : World) (A1 : Option Addr) (c1 : Nat) (B1 : Option Addr) (d1 : Nat) (A2 : Option Addr) (c2 : Nat) (B2 : Option Addr) (d2 : Nat) (g1 : SlOk W A1 c1 (pX xs 0 hi) B1 (pM ms 0 hi)) (g2 : SlOk W A2 c2 (pX xs hi xs.length) B2 (pM ms hi xs.length)) => join_part hok (f := 0) (t := hi) (u := xs.length) (by omega) hhi (Nat.le_refl _) W A1 B1 A2 B2 c1 d1 c2 d2 g1 g2
 have hJr := fun (W : World) (A1 : Option Addr) (c1 : Nat) (B1 : Option Addr) (d1 : Nat) (A2 : Option Addr) (c2 : Nat) (B2 : Option Addr) (d2 : Nat) (g1 : SlOk W A1 c1 (pX xs lo hi) B1 (pM ms lo hi)) (g2 : SlOk W A2 c2 (pX xs hi xs.length) B2 (pM ms hi xs.length)) => join_part hok (f := lo) (t := hi) (u := xs.length) hlh hhi (Nat.le_refl _) W A1 B1 A2 B2 c1 d1 c2 d2 g1 g2
 have hJs := fun (W : World) (A1 : Option Addr) (c1 : Nat) (B1 : Option Addr) (d1 : Nat) (A2 : Option Addr) (c2 : Nat) (B2 : Option Addr) (d2 : Nat) (g1 : SlOk W A1 c1 (pX xs 0 lo) B1 (pM ms 0 lo)) (g2 : SlOk W A2 c2 (pX xs lo xs.length) B2 (pM ms lo xs.length)) => join_part hok (f := 0) (t := lo) (u := xs.length) (by omega) (by omega) (Nat.le_refl _) W A1 B1 A2 B2 c1 d1 c2 d2 g1 g2
 have hJn := fun (hh : lo < hi) (W : World) (A1 : Option Addr) (c1 : Nat) (B1 : Option Addr) (d1 : Nat) (A2 : Option Addr) (c2 : Nat) (B2 : Option Addr) (d2 : Nat) (g1 : SlOk W A1 c1 (pX xs 0 lo) B1 (pM ms 0 lo)) (g2 : SlOk W A2 c2 (pX xs hi xs.length) B2 (pM ms hi xs.length)) => join_gap hok (f := lo) (t := hi) hh hhi W A1 B1 A2 B2 c1 d1 c2 d2 g1 g2
 have hF := fun (W : World) (h : Rd W A (flts xs)) => (floats_any A xs.length c xs W h rfl hca (by omega)).mono (R' := fun e w' => ∃ GA gc, e = .returned (.slice GA xs.length gc) ∧ Rd w' GA (flts xs) ∧ Below W.heap.size W w') fun e w' ⟨v, h1, h2, h3⟩ => by
  obtain ⟨B, d, rfl, hB⟩ := owned_slice h2
  exact ⟨B, d, h1, hB, h3⟩
 rw [pS_zero] at hCa hJp hJq hJs hJn
 rw [hxw, hmw] at hJq hJs
 have hmb : MkOk (hi - lo) (pM ms lo hi) := cut_marks h6 h4 hlh (by omega)
 have hxb : (pX xs lo hi).length = hi - lo := pX_len hhi
 have hpb := mul_le_of (a := sp) (b := sp) (c := (lo : Int)) (d := (xs.length : Int)) (by omega) (Int.le_refl _) (by omega) (by omega)
 have hmk : ∀ i (h : i < (pM ms lo hi).length), ∃ (k : Nat) (hk : k < ms.length), ((pM ms 0 lo).length : Int) + (i : Int) = (k : Int) ∧ 0 ≤ (pM ms lo hi)[i].1 ∧ (pM ms lo hi)[i].1 < ((pX xs lo hi).length : Int) ∧ pS st sp lo + sp * (pM ms lo hi)[i].1 = st + sp * (ms[k]'hk).1 ∧ (pM ms lo hi)[i].2 = (ms[k]'hk).2 := by
  intro i hi'
  obtain ⟨hk, e1, e2⟩ := cut_at h6 h4 hlh hhi hi'
  have hm2 := hmb.2.1 _ (List.getElem_mem hi')
  refine ⟨(pM ms 0 lo).length + i, hk, by omega, hm2.1, by rw [hxb]; exact hm2.2.1, ?_, e2⟩
  have e3 : (pM ms lo hi)[i].1 = (ms[(pM ms 0 lo).length + i]'hk).1 - (lo : Int) := e1
  rw [e3, Int.mul_sub]; unfold pS; omega
 obtain ⟨sh, hsh, hsh8⟩ : ∃ sh : Nat, (n2 : Int) % 9 = (sh : Int) ∧ sh ≤ 8 := ⟨n2 % 9, by omega, by omega⟩
 have hub : ∀ v ∈ xs.map unitI, v.natAbs ≤ 65536 := by
  intro v hv'
  obtain ⟨x, hx', rfl⟩ := List.mem_map.1 hv'
  have := unitI_bd (hv x hx'); omega
 obtain ⟨t, ht, hal⟩ : ∃ t : Nat, t ≤ sh ∧ (0 < xs.length → alignL (xs.map unitI) ((List.replicate sh 0 ++ xs).map unitI) 8 xs.length = (0, 1, (t : Int))) := by
  by_cases h0 : 0 < xs.length
  · obtain ⟨t, ht, ha⟩ := align_late (x := xs.map unitI) (k := sh) (by simpa using h0) (by simp; omega) hsh8 hub
    refine ⟨t, ht, fun _ => ?_⟩
    rw [List.map_append, List.map_replicate, unitI_zero]
    rw [List.length_map] at ha
    exact ha
  · exact ⟨0, by omega, fun h => absurd h h0⟩
 have hvl : ∀ x ∈ List.replicate sh 0 ++ xs, sampI x = 0 := by
  intro x hx'
  rcases List.mem_append.1 hx' with h | h
  · rw [List.eq_of_mem_replicate h]; kernel_rfl
  · exact hv x h
 have hAl := fun (h0 : 0 < xs.length) (W : World) (GA : Option Addr) (gc : Nat) (LA : Option Addr) (lc : Nat) (g1 : Rd W GA (flts xs)) (g2 : Rd W LA (flts (List.replicate sh 0 ++ xs))) => aligned_any GA LA gc lc xs (List.replicate sh 0 ++ xs) xs.length (sh + xs.length) 8 xs.length W g1 g2 rfl (by simp) h4 (by simp; omega) (samps_of h4 hv) (samps_of (by simp; omega) hvl) hv hvl (by omega) (by omega)
 have hAl2 : 0 < xs.length → ∀ W GA gc LA lc, Rd W GA (flts xs) → Rd W LA (flts (List.replicate sh 0 ++ xs)) → Calls Tryz.prog 35 #[.slice GA xs.length gc, .slice LA (sh + xs.length) lc, .int .i64 8, .int .i64 (xs.length : Int)] W fun e w' => e = .returned (.tuple #[.int .i64 (t : Int), .agg #[.int .i64 0, .int .i64 1], .int .i64 0]) ∧ Below W.heap.size W w' := by
  intro h0 W GA gc LA lc g1 g2
  have k := hAl h0 W GA gc LA lc g1 g2
  rw [hal h0] at k
  exact k
 have hlen : ∀ f t : Nat, (pX xs f t).length ≤ 1000 := fun f t => by have := pX_le xs f t; omega
 have hmen : ∀ f t : Nat, (pM ms f t).length ≤ 16 := fun f t => by have := pM_le ms f t; have := h6.1; omega
 exact cuts_walk haw st sp A B c d xs ms n0 n1 n2 hn0 hn1 hn2 w haW hA hB hca hlc hs hrec (by omega) h1 h2 _ rfl ⟨hpl0, by omega⟩ o1 o2 lo hi ho1 ho2 hoo hlh hhi _ rfl ⟨hpb.1, by omega⟩
  st (pS st sp lo) (pS st sp hi) (pX xs 0 lo) (pX xs lo hi) (pX xs hi xs.length) (pX xs 0 hi) (pX xs lo xs.length) (pM ms 0 lo) (pM ms lo hi) (pM ms hi xs.length) (pM ms 0 hi) (pM ms lo xs.length)
  hCa hCb hCc hJp hJq hJr hJs hJn rfl rfl hxb (cut_lens h6 h4 hlh hhi) hmk sh hsh hsh8 (t : Int) ⟨by omega, by omega⟩ hF hAl2 (sameF_self xs hv)
  (hlen _ _) (hlen _ _) (hlen _ _) (hlen _ _) (hlen _ _) h6.1 (hmen _ _) (hmen _ _) (hmen _ _) (hmen _ _) (hmen _ _)
end Go.Proofs.YtkfkmnfejeocpaaGreatDoor
