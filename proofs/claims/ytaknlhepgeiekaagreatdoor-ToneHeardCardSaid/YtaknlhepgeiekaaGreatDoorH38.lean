import Derived.Test.YtaknlhepgeiekaaGreatDoorH33
import Derived.Test.YtaknlhepgeiekaaGreatDoorH36
namespace Go.Proofs.YtaknlhepgeiekaaGreatDoor
set_option linter.all false
open Go.RowKit Go.Fl
set_option maxRecDepth 100000
set_option maxHeartbeats 2000000
theorem results3 {P : Program} {fn : Func} {t u v : Tmp} (h : fn.results = #[.tmp t, .tmp u, .tmp v]) (tmps : Array Value) (w : World) : (results fn tmps).run P w = .ok (.tuple #[tmps.getD t undef, tmps.getD u undef, tmps.getD v undef]) w := by simp [results, h]
def rdS (s : ByteArray) : Nat × Int × List Sg := if 4096 < s.size then (0, 26, []) else ((linesG eaS 0 [] (linesL s)).1, okG (linesG eaS 0 [] (linesL s)).2.1, (linesG eaS 0 [] (linesL s)).2.2)
def parE (s : ByteArray) : Int := firstI [(rdS s).2.1, sgsE (rdS s).2.2]
theorem linesG_len : ∀ (l : List ByteArray) (i : Nat) (S : List Sg), (linesG eaS i S l).2.2.length ≤ S.length + l.length ∧ (linesG eaS i S l).1 ≤ i + l.length := by
 intro l
 induction l with
 | nil => intro i S; exact ⟨Nat.le_refl _, Nat.le_refl _⟩
 | cons x l ih =>
   intro i S
   have hs : (stepG eaS i S x).2.length ≤ S.length + 1 := by
    unfold stepG eaS
    split
    · simp
    · simp
   rw [linesG_cons, List.length_cons]
   split
   · have := ih (i + 1) (stepG eaS i S x).2; omega
   · dsimp only; omega
theorem rdS_len (s : ByteArray) : (rdS s).2.2.length ≤ 4097 ∧ (rdS s).1 ≤ 4097 := by
 unfold rdS
 split
 · simp
 · have h := linesG_len (linesL s) 0 []
   have h2 := linesL_le s
   simp only [List.length_nil] at h
   dsimp only
   omega
theorem readLong_any (s : ByteArray) (f : Value) (w : World) (hs : 4096 < s.size) (h2 : s.size ≤ 1000000000000) : Calls Tryz.prog 147 #[.string s, f] w fun e w' => e = .returned (.tuple #[.int .i64 0, .int .i64 26]) ∧ w' = w := by
 go_enter Tryz.func147, Tryz.ntmps147
 go_wp2
 go_ret2
 exact ⟨rfl, rfl⟩
theorem readS_any (w0 : World) (bf bl bn be bw : Nat) (s : ByteArray) (w : World) (hR : EaI w0 bf bl bn be bw 0 [] w) (hM : Mx w0) (hs : s.size ≤ 1000000000000) :
 Calls Tryz.prog 147 #[.string s, .func (.func 148) #[] #[.pointer (some ⟨bf, 0, none⟩), .pointer (some ⟨bl, 0, none⟩)]] w fun e w' => e = .returned (.tuple #[.int .i64 (rdS s).1, .int .i64 (rdS s).2.1]) ∧ ∃ k, EaI w0 bf bl bn be bw k (rdS s).2.2 w' := by
 by_cases h : 4096 < s.size
 · have e : rdS s = (0, 26, []) := by unfold rdS; rw [if_pos h]
   rw [e]
   exact (readLong_any s _ w h hs).mono fun e w' ⟨h1, h2⟩ => ⟨h1, 0, by rw [h2]; exact hR⟩
 · have e : rdS s = ((linesG eaS 0 [] (linesL s)).1, okG (linesG eaS 0 [] (linesL s)).2.1, (linesG eaS 0 [] (linesL s)).2.2) := by unfold rdS; rw [if_neg h]
   rw [e]
   exact readLinesG_any eaS (EaI w0 bf bl bn be bw) 148 #[.pointer (some ⟨bf, 0, none⟩), .pointer (some ⟨bl, 0, none⟩)] w0 (fun _ _ _ h => h.2.2.2.2.1) (fun _ _ _ _ h hb => h.old hb) (fun k S ws W g lb AL hI hW hm hk hg => each1_any w0 bf bl bn be bw k S ws W g lb AL hI hW hm hk hg) (enters_of Tryz.func148 (by kernel_rfl) rfl) s [] w hR hM (by omega)
theorem parseEach_bad (w0 : World) (bn be bw : Nat) (s : ByteArray) (w : World) (hn : Row w bn 3 [.int .i64 6]) (he : Row w be 137 [.func (.func 58) #[] #[]]) (hw : Row w bw 9 [.string wSig]) (hb0 : Below w0.heap.size w0 w) (hM : Mx w0) (hs : s.size ≤ 1000000000000) (h0 : parE s ≠ 0) :
 Calls Tryz.prog 114 #[.string s, .func (.func 115) #[] #[.pointer (some ⟨bn, 0, none⟩), .pointer (some ⟨be, 0, none⟩), .pointer (some ⟨bw, 0, none⟩)], .func (.func 52) #[] #[]] w fun e w' => e = .returned (.tuple #[.slice none 0 0, .int .i64 (rdS s).1, .int .i64 (parE s)]) ∧ Below w0.heap.size w0 w' := by
 have hsz := hb0.size
 have HA0 : Hid (Below w.heap.size w (w.alloc (.cells #[.func (.func 115) #[] #[.pointer (some ⟨bn, 0, none⟩), .pointer (some ⟨be, 0, none⟩), .pointer (some ⟨bw, 0, none⟩)]] 198))) := (Below.refl _ _).alloc (Nat.le_refl _) _
 have HA1 : Hid (Below w.heap.size w ((w.alloc (.cells #[.func (.func 115) #[] #[.pointer (some ⟨bn, 0, none⟩), .pointer (some ⟨be, 0, none⟩), .pointer (some ⟨bw, 0, none⟩)]] 198)).alloc (.cells #[.slice none 0 0] 45))) := HA0.out.alloc (by simp) _
 have HR0 : Hid (EaI w0 w.heap.size (w.heap.size + 1) bn be bw 0 [] ((w.alloc (.cells #[.func (.func 115) #[] #[.pointer (some ⟨bn, 0, none⟩), .pointer (some ⟨be, 0, none⟩), .pointer (some ⟨bw, 0, none⟩)]] 198)).alloc (.cells #[.slice none 0 0] 45))) :=
  ⟨(rowAt w w.heap.size rfl).alloc _, hn.old HA1.out, he.old HA1.out, hw.old HA1.out, hb0.trans (HA1.out.mono hsz), Nat.le_refl _, by omega, .slice none 0 0, rowAt _ _ (by simp), World.ownsRow_nil _ _ _ _⟩
 have HRD := Lib.hid (readS_any w0 w.heap.size (w.heap.size + 1) bn be bw s _ HR0.out hM hs)
 have hlen := rdS_len s
 have HE : Hid (parE s = firstI [(rdS s).2.1, sgsE (rdS s).2.2]) := rfl
 obtain ⟨E, hE⟩ : ∃ E, E = parE s := ⟨_, rfl⟩
 rw [← hE] at HE h0 ⊢
 obtain ⟨⟨i, e1, S⟩, hr⟩ : ∃ r, r = rdS s := ⟨_, rfl⟩
 rw [← hr] at HE HRD hlen ⊢
 dsimp only at HE HRD hlen ⊢
 clear hn he hw hb0 HA0 HA1 hE hr HR0
 have hne : (E == 0) = false := by simpa using h0
 have hne2 : (E != 0) = true := by simpa using h0
 go_enter Tryz.func114, Tryz.ntmps114
 go_wp2_with fail
 refine HRD.out.mono ?_
 rintro e w1 ⟨rfl, k, hi⟩
 obtain ⟨v, hv8, hv9⟩ := hi.2.2.2.2.2.2.2
 obtain ⟨A, c, rfl, hrd⟩ := owned_slice hv9
 have cl := hv8.cell 0
 simp only [List.getElem?_cons_zero] at cl
 have HCK := Lib.hid (checkSignals_any A c S w1 hrd (by omega))
 have HK : Hid (Row w1 (w.heap.size + 1) 45 [.slice A S.length c] ∧ Rd w1 A (sgC S) ∧ Below w0.heap.size w0 w1) := ⟨hv8, hrd, hi.2.2.2.2.1⟩
 obtain ⟨E2, hE2⟩ : ∃ E2, E2 = sgsE S := ⟨_, rfl⟩
 rw [← hE2] at HCK HE
 clear hi hv8 hv9 hrd HRD hE2
 go_wp2_with fail
 refine HCK.out.mono ?_
 rintro e w2 ⟨rfl, hb2⟩
 have HA2 : Hid (Below w2.heap.size w2 (w2.alloc (.cells #[.int .i64 e1, .int .i64 E2] 32))) := (Below.refl _ _).alloc (Nat.le_refl _) _
 have HB2 : Hid (Below w1.heap.size w1 (w2.alloc (.cells #[.int .i64 e1, .int .i64 E2] 32))) := hb2.trans (HA2.out.mono hb2.size)
 have HK2 : Hid (Row (w2.alloc (.cells #[.int .i64 e1, .int .i64 E2] 32)) (w.heap.size + 1) 45 [.slice A S.length c] ∧ Rd (w2.alloc (.cells #[.int .i64 e1, .int .i64 E2] 32)) A (sgC S) ∧ Below w0.heap.size w0 (w2.alloc (.cells #[.int .i64 e1, .int .i64 E2] 32))) := ⟨HK.out.1.old HB2.out, HK.out.2.1.below HB2.out, HK.out.2.2.trans (HB2.out.mono HK.out.2.2.size)⟩
 clear hb2 HA2 HB2 HK HCK cl
 go_wp2_with fail
 refine (firstV_any _ _ _ [e1, E2] _ ?_ rfl (by simp)).mono ?_
 · exact Rd.newT (t := 32)
 rintro e w3 ⟨rfl, rfl⟩
 rw [← HE.out]
 have c2 := HK2.out.1.cell 0
 simp only [List.getElem?_cons_zero] at c2
 go_wp2_with fail
 exact bodyPost_ret (results3 rfl _ _) rfl ⟨rfl, HK2.out.2.2⟩
theorem parseEach_ok (w0 : World) (bn be bw : Nat) (s : ByteArray) (w : World) (hn : Row w bn 3 [.int .i64 6]) (he : Row w be 137 [.func (.func 58) #[] #[]]) (hw : Row w bw 9 [.string wSig]) (hb0 : Below w0.heap.size w0 w) (hM : Mx w0) (hs : s.size ≤ 1000000000000) (h0 : parE s = 0) :
 Calls Tryz.prog 114 #[.string s, .func (.func 115) #[] #[.pointer (some ⟨bn, 0, none⟩), .pointer (some ⟨be, 0, none⟩), .pointer (some ⟨bw, 0, none⟩)], .func (.func 52) #[] #[]] w fun e w' => (∃ A c, e = .returned (.tuple #[.slice A (rdS s).2.2.length c, .int .i64 0, .int .i64 0]) ∧ Rd w' A (sgC (rdS s).2.2)) ∧ Below w0.heap.size w0 w' := by
 have hsz := hb0.size
 have HA0 : Hid (Below w.heap.size w (w.alloc (.cells #[.func (.func 115) #[] #[.pointer (some ⟨bn, 0, none⟩), .pointer (some ⟨be, 0, none⟩), .pointer (some ⟨bw, 0, none⟩)]] 198))) := (Below.refl _ _).alloc (Nat.le_refl _) _
 have HA1 : Hid (Below w.heap.size w ((w.alloc (.cells #[.func (.func 115) #[] #[.pointer (some ⟨bn, 0, none⟩), .pointer (some ⟨be, 0, none⟩), .pointer (some ⟨bw, 0, none⟩)]] 198)).alloc (.cells #[.slice none 0 0] 45))) := HA0.out.alloc (by simp) _
 have HR0 : Hid (EaI w0 w.heap.size (w.heap.size + 1) bn be bw 0 [] ((w.alloc (.cells #[.func (.func 115) #[] #[.pointer (some ⟨bn, 0, none⟩), .pointer (some ⟨be, 0, none⟩), .pointer (some ⟨bw, 0, none⟩)]] 198)).alloc (.cells #[.slice none 0 0] 45))) :=
  ⟨(rowAt w w.heap.size rfl).alloc _, hn.old HA1.out, he.old HA1.out, hw.old HA1.out, hb0.trans (HA1.out.mono hsz), Nat.le_refl _, by omega, .slice none 0 0, rowAt _ _ (by simp), World.ownsRow_nil _ _ _ _⟩
 have HRD := Lib.hid (readS_any w0 w.heap.size (w.heap.size + 1) bn be bw s _ HR0.out hM hs)
 have hlen := rdS_len s
 have HE : Hid (parE s = firstI [(rdS s).2.1, sgsE (rdS s).2.2]) := rfl
 obtain ⟨E, hE⟩ : ∃ E, E = parE s := ⟨_, rfl⟩
 rw [← hE] at HE h0
 obtain ⟨⟨i, e1, S⟩, hr⟩ : ∃ r, r = rdS s := ⟨_, rfl⟩
 rw [← hr] at HE HRD hlen ⊢
 dsimp only at HE HRD hlen ⊢
 clear hn he hw hb0 HA0 HA1 hE hr HR0
 have hne : (E == 0) = true := by simpa using h0
 have hne2 : (E != 0) = false := by simpa using h0
 go_enter Tryz.func114, Tryz.ntmps114
 go_wp2_with fail
 refine HRD.out.mono ?_
 rintro e w1 ⟨rfl, k, hi⟩
 obtain ⟨v, hv8, hv9⟩ := hi.2.2.2.2.2.2.2
 obtain ⟨A, c, rfl, hrd⟩ := owned_slice hv9
 have cl := hv8.cell 0
 simp only [List.getElem?_cons_zero] at cl
 have HCK := Lib.hid (checkSignals_any A c S w1 hrd (by omega))
 have HK : Hid (Row w1 (w.heap.size + 1) 45 [.slice A S.length c] ∧ Rd w1 A (sgC S) ∧ Below w0.heap.size w0 w1) := ⟨hv8, hrd, hi.2.2.2.2.1⟩
 obtain ⟨E2, hE2⟩ : ∃ E2, E2 = sgsE S := ⟨_, rfl⟩
 rw [← hE2] at HCK HE
 clear hi hv8 hv9 hrd HRD hE2
 go_wp2_with fail
 refine HCK.out.mono ?_
 rintro e w2 ⟨rfl, hb2⟩
 have HA2 : Hid (Below w2.heap.size w2 (w2.alloc (.cells #[.int .i64 e1, .int .i64 E2] 32))) := (Below.refl _ _).alloc (Nat.le_refl _) _
 have HB2 : Hid (Below w1.heap.size w1 (w2.alloc (.cells #[.int .i64 e1, .int .i64 E2] 32))) := hb2.trans (HA2.out.mono hb2.size)
 have HK2 : Hid (Row (w2.alloc (.cells #[.int .i64 e1, .int .i64 E2] 32)) (w.heap.size + 1) 45 [.slice A S.length c] ∧ Rd (w2.alloc (.cells #[.int .i64 e1, .int .i64 E2] 32)) A (sgC S) ∧ Below w0.heap.size w0 (w2.alloc (.cells #[.int .i64 e1, .int .i64 E2] 32))) := ⟨HK.out.1.old HB2.out, HK.out.2.1.below HB2.out, HK.out.2.2.trans (HB2.out.mono HK.out.2.2.size)⟩
 clear hb2 HA2 HB2 HK HCK cl
 go_wp2_with fail
 refine (firstV_any _ _ _ [e1, E2] _ ?_ rfl (by simp)).mono ?_
 · exact Rd.newT (t := 32)
 rintro e w3 ⟨rfl, rfl⟩
 rw [← HE.out]
 have c2 := HK2.out.1.cell 0
 simp only [List.getElem?_cons_zero] at c2
 go_wp2_with fail
 exact bodyPost_ret (results3 rfl _ _) rfl ⟨⟨_, _, rfl, HK2.out.2.1⟩, HK2.out.2.2⟩
theorem parseLines_bad (s : ByteArray) (w : World) (hM : Mx w) (hs : s.size ≤ 1000000000000) (h0 : parE s ≠ 0) :
 Calls Tryz.prog 57 #[.string s, .string wSig, .int .i64 6, .func (.func 58) #[] #[], .func (.func 52) #[] #[]] w fun e w' => e = .returned (.tuple #[.slice none 0 0, .int .i64 (rdS s).1, .int .i64 (parE s)]) ∧ Below w.heap.size w w' := by
 obtain ⟨W3, hW3⟩ : ∃ W3, W3 = ((w.alloc (.cells #[.string wSig] 9)).alloc (.cells #[.int .i64 6] 3)).alloc (.cells #[.func (.func 58) #[] #[]] 137) := ⟨_, rfl⟩
 have HB : Hid (Below w.heap.size w W3) := by rw [hW3]; exact (((Below.refl _ _).alloc (Nat.le_refl _) _).alloc (by simp) _).alloc (by simp; omega) _
 have HP := Lib.hid (parseEach_bad w (w.heap.size + 1) (w.heap.size + 1 + 1) w.heap.size s W3 (by rw [hW3]; exact (rowAt _ _ (by simp)).alloc _) (by rw [hW3]; exact rowAt _ _ (by simp)) (by rw [hW3]; exact ((rowAt _ _ rfl).alloc _).alloc _) HB.out hM hs h0)
 rw [hW3] at HP
 clear hM h0 HB hW3
 go_enter Tryz.func57, Tryz.ntmps57
 go_wp2_with fail
 refine HP.out.mono ?_
 rintro e w1 ⟨rfl, hb⟩
 go_wp2_with fail
 exact bodyPost_ret (results3 rfl _ _) rfl ⟨rfl, hb⟩
theorem parseLines_ok (s : ByteArray) (w : World) (hM : Mx w) (hs : s.size ≤ 1000000000000) (h0 : parE s = 0) :
 Calls Tryz.prog 57 #[.string s, .string wSig, .int .i64 6, .func (.func 58) #[] #[], .func (.func 52) #[] #[]] w fun e w' => (∃ A c, e = .returned (.tuple #[.slice A (rdS s).2.2.length c, .int .i64 0, .int .i64 0]) ∧ Rd w' A (sgC (rdS s).2.2)) ∧ Below w.heap.size w w' := by
 obtain ⟨W3, hW3⟩ : ∃ W3, W3 = ((w.alloc (.cells #[.string wSig] 9)).alloc (.cells #[.int .i64 6] 3)).alloc (.cells #[.func (.func 58) #[] #[]] 137) := ⟨_, rfl⟩
 have HB : Hid (Below w.heap.size w W3) := by rw [hW3]; exact (((Below.refl _ _).alloc (Nat.le_refl _) _).alloc (by simp) _).alloc (by simp; omega) _
 have HP := Lib.hid (parseEach_ok w (w.heap.size + 1) (w.heap.size + 1 + 1) w.heap.size s W3 (by rw [hW3]; exact (rowAt _ _ (by simp)).alloc _) (by rw [hW3]; exact rowAt _ _ (by simp)) (by rw [hW3]; exact ((rowAt _ _ rfl).alloc _).alloc _) HB.out hM hs h0)
 rw [hW3] at HP
 clear hM h0 HB hW3
 go_enter Tryz.func57, Tryz.ntmps57
 go_wp2_with fail
 refine HP.out.mono ?_
 rintro e w1 ⟨⟨A, c, rfl, hr⟩, hb⟩
 go_wp2_with fail
 exact bodyPost_ret (results3 rfl _ _) rfl ⟨⟨_, _, rfl, hr⟩, hb⟩
theorem parseS_bad (s : ByteArray) (w : World) (hM : Mx w) (hs : s.size ≤ 1000000000000) (h0 : parE s ≠ 0) :
 Calls Tryz.prog 15 #[.string s] w fun e w' => e = .returned (.tuple #[.slice none 0 0, .int .i64 (rdS s).1, .int .i64 (parE s)]) ∧ Below w.heap.size w w' := by
 have HP := Lib.hid (parseLines_bad s w hM hs h0)
 clear hM h0
 go_enter Tryz.func15, Tryz.ntmps15
 go_wp2_with fail
 refine HP.out.mono ?_
 rintro e w1 ⟨rfl, hb⟩
 go_wp2_with fail
 exact bodyPost_ret (results3 rfl _ _) rfl ⟨rfl, hb⟩
theorem parseS_ok (s : ByteArray) (w : World) (hM : Mx w) (hs : s.size ≤ 1000000000000) (h0 : parE s = 0) :
 Calls Tryz.prog 15 #[.string s] w fun e w' => (∃ A c, e = .returned (.tuple #[.slice A (rdS s).2.2.length c, .int .i64 0, .int .i64 0]) ∧ Rd w' A (sgC (rdS s).2.2)) ∧ Below w.heap.size w w' := by
 have HP := Lib.hid (parseLines_ok s w hM hs h0)
 clear hM h0
 go_enter Tryz.func15, Tryz.ntmps15
 go_wp2_with fail
 refine HP.out.mono ?_
 rintro e w1 ⟨⟨A, c, rfl, hr⟩, hb⟩
 go_wp2_with fail
 exact bodyPost_ret (results3 rfl _ _) rfl ⟨⟨_, _, rfl, hr⟩, hb⟩
set_option maxRecDepth 100000
set_option maxHeartbeats 1000000
theorem xDepths (w : World) : Calls Tryz.prog 30 #[.agg #[.int .i64 10, .int .i64 0, .int .i64 3, .int .i64 0, .int .i64 1, .int .i64 0]] w fun e w' => e = .returned (.tuple #[.agg #[.int .i64 3, .int .i64 10], .agg #[.int .i64 1, .int .i64 10], .int .i64 0]) ∧ Below w.heap.size w w' := by
 refine (depthsT_ok 10 0 3 0 1 0 w (by decide)).mono ?_
 rintro e w' ⟨h1, h2⟩
 exact ⟨h1.trans (by kernel_rfl), h2⟩
theorem xNeedle (w : World) : Calls Tryz.prog 21 #[.agg #[.int .i64 10, .int .i64 0, .int .i64 3, .int .i64 0, .int .i64 1, .int .i64 0]] w fun e w' => e = .returned (.tuple #[.agg #[.int .i64 1, .int .i64 5], .int .i64 0]) ∧ Below w.heap.size w w' := by
 refine (needleT_ok 10 0 3 0 1 0 w (by decide)).mono ?_
 rintro e w' ⟨h1, h2⟩
 exact ⟨h1.trans (by kernel_rfl), h2⟩
theorem xSum (w : World) : Calls Tryz.prog 31 #[.agg #[.int .i64 10, .int .i64 0, .int .i64 3, .int .i64 0, .int .i64 1, .int .i64 0]] w fun e w' => e = .returned (.tuple #[.agg #[.int .i64 2, .int .i64 5], .int .i64 0]) ∧ Below w.heap.size w w' := by
 refine (sumT_ok 10 0 3 0 1 0 w (by decide)).mono ?_
 rintro e w' ⟨h1, h2⟩
 exact ⟨h1.trans (by kernel_rfl), h2⟩
theorem xTurned (w : World) (hT : Tn w) : Calls Tryz.prog 24 #[.agg #[.int .i64 10, .int .i64 0, .int .i64 3, .int .i64 0, .int .i64 1, .int .i64 0], .int .i64 1] w fun e w' => e = .returned (.tuple #[.agg #[.int .i64 0, .int .i64 10, .int .i64 0, .int .i64 3, .int .i64 0, .int .i64 1], .int .i64 0]) ∧ Below w.heap.size w w' := by
 refine (turned_ok 10 0 3 0 1 0 1 w hT (by decide)).mono ?_
 rintro e w' ⟨h1, h2⟩
 exact ⟨h1.trans (by kernel_rfl), h2⟩
theorem xScaled (w : World) : Calls Tryz.prog 25 #[.agg #[.int .i64 10, .int .i64 0, .int .i64 3, .int .i64 0, .int .i64 1, .int .i64 0], .agg #[.int .i64 1, .int .i64 0], .agg #[.int .i64 0, .int .i64 1]] w fun e w' => e = .returned (.tuple #[.agg #[.int .i64 10, .int .i64 0, .int .i64 0, .int .i64 3, .int .i64 0, .int .i64 1], .int .i64 0]) ∧ Below w.heap.size w w' := by
 refine (scaled_ok 10 0 3 0 1 0 1 0 0 1 w (by decide)).mono ?_
 rintro e w' ⟨h1, h2⟩
 exact ⟨h1.trans (by kernel_rfl), h2⟩
theorem xNeedle2 (w : World) : Calls Tryz.prog 21 #[.agg #[.int .i64 10, .int .i64 0, .int .i64 0, .int .i64 3, .int .i64 0, .int .i64 1]] w fun e w' => e = .returned (.tuple #[.agg #[.int .i64 0, .int .i64 1], .int .i64 0]) ∧ Below w.heap.size w w' := by
 refine (needleT_ok 10 0 0 3 0 1 w (by decide)).mono ?_
 rintro e w' ⟨h1, h2⟩
 exact ⟨h1.trans (by kernel_rfl), h2⟩
theorem recR : RecG 100 30 50 200 600 := by constructor <;> decide
def sgP (a b c : Int) : Sg := ⟨a, 0, b, 0, c, 0⟩
theorem xTold (w : World) : Calls Tryz.prog 32 #[.agg #[.int .i64 100, .int .i64 30, .int .i64 50, .int .i64 200, .int .i64 600], .agg #[.int .i64 10, .int .i64 0, .int .i64 3, .int .i64 0, .int .i64 1, .int .i64 0]] w fun e w' => e = .returned (.tuple #[.int .i64 20, .string ⟨#[]⟩, .int .i64 0]) ∧ Below w.heap.size w w' := by
 refine (toldT_ok 100 30 50 200 600 10 0 3 0 1 0 0 w (by decide) rfl _ _ (fun W => told_sg 100 30 50 200 600 (sgP 10 3 1) W recR (sig_good (by decide)))).mono ?_
 rintro e w' ⟨h1, h2⟩
 exact ⟨h1.trans (by kernel_rfl), h2⟩
theorem xTold5 (w : World) : Calls Tryz.prog 32 #[.agg #[.int .i64 100, .int .i64 30, .int .i64 50, .int .i64 200, .int .i64 600], .agg #[.int .i64 10, .int .i64 0, .int .i64 5, .int .i64 0, .int .i64 1, .int .i64 0]] w fun e w' => e = .returned (.tuple #[.int .i64 30, .string ⟨#[]⟩, .int .i64 0]) ∧ Below w.heap.size w w' := by
 refine (toldT_ok 100 30 50 200 600 10 0 5 0 1 0 0 w (by decide) rfl _ _ (fun W => told_sg 100 30 50 200 600 (sgP 10 5 1) W recR (sig_good (by decide)))).mono ?_
 rintro e w' ⟨h1, h2⟩
 exact ⟨h1.trans (by kernel_rfl), h2⟩
theorem xTold6 (w : World) : Calls Tryz.prog 32 #[.agg #[.int .i64 100, .int .i64 30, .int .i64 50, .int .i64 200, .int .i64 600], .agg #[.int .i64 10, .int .i64 0, .int .i64 6, .int .i64 0, .int .i64 1, .int .i64 0]] w fun e w' => e = .returned (.tuple #[.int .i64 0, .string ⟨#[100, 101, 112, 116, 104]⟩, .int .i64 0]) ∧ Below w.heap.size w w' := by
 refine (toldT_ok 100 30 50 200 600 10 0 6 0 1 0 0 w (by decide) rfl _ _ (fun W => told_sg 100 30 50 200 600 (sgP 10 6 1) W recR (sig_good (by decide)))).mono ?_
 rintro e w' ⟨h1, h2⟩
 exact ⟨h1.trans (by kernel_rfl), h2⟩
theorem xTold7 (w : World) : Calls Tryz.prog 32 #[.agg #[.int .i64 100, .int .i64 30, .int .i64 50, .int .i64 200, .int .i64 600], .agg #[.int .i64 7, .int .i64 0, .int .i64 3, .int .i64 0, .int .i64 1, .int .i64 0]] w fun e w' => e = .returned (.tuple #[.int .i64 0, .string ⟨#[119, 101, 97, 107]⟩, .int .i64 0]) ∧ Below w.heap.size w w' := by
 refine (toldT_ok 100 30 50 200 600 7 0 3 0 1 0 0 w (by decide) rfl _ _ (fun W => told_sg 100 30 50 200 600 (sgP 7 3 1) W recR (sig_good (by decide)))).mono ?_
 rintro e w' ⟨h1, h2⟩
 exact ⟨h1.trans (by kernel_rfl), h2⟩
theorem xCap2 (w : World) : Calls Tryz.prog 19 #[.agg #[.int .i64 10, .int .i64 0, .int .i64 3, .int .i64 0, .int .i64 1, .int .i64 0, .int .i64 6, .int .i64 0, .int .i64 0, .int .i64 0, .int .i64 3, .int .i64 0], .int .i64 2000] w fun e w' => e = .returned (.tuple #[.int .i64 0, .int .i64 0]) ∧ Below w.heap.size w w' := by
 refine (capturedT_ok 10 0 3 0 1 0 6 0 0 0 3 0 2000 w (by decide)).mono ?_
 rintro e w' ⟨h1, h2⟩
 exact ⟨h1.trans (by kernel_rfl), h2⟩
theorem xCap3 (w : World) : Calls Tryz.prog 19 #[.agg #[.int .i64 10, .int .i64 0, .int .i64 3, .int .i64 0, .int .i64 1, .int .i64 0, .int .i64 6, .int .i64 0, .int .i64 0, .int .i64 0, .int .i64 3, .int .i64 0], .int .i64 3000] w fun e w' => e = .returned (.tuple #[.int .i64 2, .int .i64 0]) ∧ Below w.heap.size w w' := by
 refine (capturedT_ok 10 0 3 0 1 0 6 0 0 0 3 0 3000 w (by decide)).mono ?_
 rintro e w' ⟨h1, h2⟩
 exact ⟨h1.trans (by kernel_rfl), h2⟩
theorem xMixed (w : World) : Calls Tryz.prog 20 #[.agg #[.int .i64 10, .int .i64 0, .int .i64 3, .int .i64 0, .int .i64 1, .int .i64 0, .int .i64 6, .int .i64 0, .int .i64 0, .int .i64 0, .int .i64 3, .int .i64 0], .int .i64 3000] w fun e w' => e = .returned (.tuple #[.agg #[.int .i64 1, .int .i64 68], .int .i64 0]) ∧ Below w.heap.size w w' := by
 refine (mixedT_k2 10 0 3 0 1 0 6 0 0 0 3 0 3000 w (by decide) 1 68 (fun W => (captured_any 10 0 3 0 1 0 6 0 0 0 3 0 3000 100 36 W ⟨by decide, by decide⟩ ⟨by decide, by decide⟩ rfl rfl (by decide) (by decide) (by decide)).mono (fun e w1 h => ⟨h.1.trans (by kernel_rfl), h.2⟩)) 20 100 (-18) 36 (by decide) (by decide) (by decide) (by decide) (fun W => (needle_any 10 0 3 0 1 0 W ⟨by decide, by decide⟩ ⟨by decide, by decide⟩ ⟨by decide, by decide⟩).mono (fun e w1 h => ⟨h.1.trans (by kernel_rfl), h.2⟩)) (fun W => (needle_any 6 0 0 0 3 0 W ⟨by decide, by decide⟩ ⟨by decide, by decide⟩ ⟨by decide, by decide⟩).mono (fun e w1 h => ⟨h.1.trans (by kernel_rfl), h.2⟩)) (fun W => (ratioQ_any (20 + (-18)) (100 + 36) W (by unfold Bd; decide) (by decide)).mono (fun e w1 h => ⟨h.1.trans (by kernel_rfl), h.2⟩))).mono ?_
 rintro e w' ⟨h1, h2⟩
 exact ⟨h1.trans (by kernel_rfl), h2⟩
theorem xLost (w : World) : Calls Tryz.prog 36 #[.agg #[.int .i64 100, .int .i64 30, .int .i64 50, .int .i64 200, .int .i64 600], .agg #[.int .i64 10, .int .i64 0, .int .i64 3, .int .i64 0, .int .i64 1, .int .i64 0], .agg #[.int .i64 0, .int .i64 500]] w fun e w' => e = .returned (.tuple #[.agg #[.int .i64 10, .int .i64 20], .int .i64 0]) ∧ Below w.heap.size w w' := by
 refine (lostT_ok 100 30 50 200 600 10 0 3 0 1 0 0 500 0 w (by decide) rfl 20 10 (fun W => (lost_any 100 30 50 200 600 10 0 3 0 1 0 20 100 0 W ⟨by decide, by decide⟩ ⟨by decide, by decide⟩ ⟨by decide, by decide⟩ (by decide) (by decide) (by decide) (by decide) (by decide) (by decide) (by decide)).mono (fun e w1 h => ⟨h.1.trans (by kernel_rfl), h.2⟩)) (fun W => (lost_any 100 30 50 200 600 10 0 3 0 1 0 20 100 500 W ⟨by decide, by decide⟩ ⟨by decide, by decide⟩ ⟨by decide, by decide⟩ (by decide) (by decide) (by decide) (by decide) (by decide) (by decide) (by decide)).mono (fun e w1 h => ⟨h.1.trans (by kernel_rfl), h.2⟩))).mono ?_
 rintro e w' ⟨h1, h2⟩
 exact ⟨h1.trans (by kernel_rfl), h2⟩
theorem xNoisy (w : World) : Calls Tryz.prog 38 #[.agg #[.int .i64 100, .int .i64 30, .int .i64 50, .int .i64 200, .int .i64 600], .agg #[.int .i64 10, .int .i64 0, .int .i64 3, .int .i64 0, .int .i64 1, .int .i64 0], .int .i64 1] w fun e w' => e = .returned (.tuple #[.agg #[.int .i64 0, .int .i64 30], .int .i64 0]) ∧ Below w.heap.size w w' := by
 refine (noisyT_ok 100 30 50 200 600 10 0 3 0 1 0 1 0 w (by decide) rfl 20 100 20 0 30 (by decide) (by decide) (by decide) (by decide) (by decide) (by decide) (fun W => (needle_any 10 0 3 0 1 0 W ⟨by decide, by decide⟩ ⟨by decide, by decide⟩ ⟨by decide, by decide⟩).mono (fun e w1 h => ⟨h.1.trans (by kernel_rfl), h.2⟩)) (fun W => (shown_any 100 30 50 200 600 (20 - 20) 100 W (by decide) (by decide) (by decide) (by decide)).mono (fun e w1 h => ⟨h.1.trans (by kernel_rfl), h.2⟩)) (fun W => (shown_any 100 30 50 200 600 (20 + 20) 100 W (by decide) (by decide) (by decide) (by decide)).mono (fun e w1 h => ⟨h.1.trans (by kernel_rfl), h.2⟩))).mono ?_
 rintro e w' ⟨h1, h2⟩
 exact ⟨h1.trans (by kernel_rfl), h2⟩
theorem xAdded (w : World) : Calls Tryz.prog 40 #[.agg #[.int .i64 10, .int .i64 0, .int .i64 3, .int .i64 0, .int .i64 1, .int .i64 0], .agg #[.int .i64 1, .int .i64 0, .int .i64 (-1), .int .i64 0, .int .i64 0, .int .i64 0]] w fun e w' => e = .returned (.tuple #[.agg #[.int .i64 11, .int .i64 0, .int .i64 2, .int .i64 0, .int .i64 1, .int .i64 0], .int .i64 0]) ∧ Below w.heap.size w w' := by
 refine (added_ok 10 0 3 0 1 0 1 0 (-1) 0 0 0 w (by decide)).mono ?_
 rintro e w' ⟨h1, h2⟩
 exact ⟨h1.trans (by kernel_rfl), h2⟩
set_option maxRecDepth 100000
set_option maxHeartbeats 1000000
def smM : Nat → Nat × Nat := fun i => match i with | 0 => (4623507967449235456, 0) | 1 => (4623507967449235456, 0) | 2 => (4619567317775286272, 0) | _ => (4619567317775286272, 0)
def smN : Nat → Nat × Nat := fun i => match i with | 0 => (4624070917402656768, 0) | 1 => (4622945017495814144, 0) | 2 => (4620693217682128896, 0) | _ => (4618441417868443648, 0)
def smR : Nat → Nat × Nat := fun i => match i with | 0 => (1096810496, 0) | 1 => (1094713344, 0) | 2 => (1090519040, 0) | _ => (1086324736, 0)
theorem madL0 : Mad (floatOfInt .f64 3) (floatOfInt .f64 0) 1 ((floatOfInt .f64 10), (floatOfInt .f64 0)) (4623507967449235456, 0) := ⟨4613937818241073152, 0, (fun w => by kernel_rfl), (fun w => by kernel_rfl)⟩
theorem madH0 : Mad (floatOfInt .f64 1) (floatOfInt .f64 0) 1 (4623507967449235456, 0) (4624070917402656768, 0) := ⟨4607182418800017408, 0, (fun w => by kernel_rfl), (fun w => by kernel_rfl)⟩
theorem smC0 (w : World) : (convert 103 30 (.complex .f64 4624070917402656768 0)).run Tryz.prog w = .ok (.complex .f32 1096810496 0) w := by kernel_rfl
theorem madL1 : Mad (floatOfInt .f64 3) (floatOfInt .f64 0) 1 ((floatOfInt .f64 10), (floatOfInt .f64 0)) (4623507967449235456, 0) := ⟨4613937818241073152, 0, (fun w => by kernel_rfl), (fun w => by kernel_rfl)⟩
theorem madH1 : Mad (floatOfInt .f64 1) (floatOfInt .f64 0) (-1) (4623507967449235456, 0) (4622945017495814144, 0) := ⟨13830554455654793216, 0, (fun w => by kernel_rfl), (fun w => by kernel_rfl)⟩
theorem smC1 (w : World) : (convert 103 30 (.complex .f64 4622945017495814144 0)).run Tryz.prog w = .ok (.complex .f32 1094713344 0) w := by kernel_rfl
theorem madL2 : Mad (floatOfInt .f64 3) (floatOfInt .f64 0) (-1) ((floatOfInt .f64 10), (floatOfInt .f64 0)) (4619567317775286272, 0) := ⟨13837309855095848960, 0, (fun w => by kernel_rfl), (fun w => by kernel_rfl)⟩
theorem madH2 : Mad (floatOfInt .f64 1) (floatOfInt .f64 0) 1 (4619567317775286272, 0) (4620693217682128896, 0) := ⟨4607182418800017408, 0, (fun w => by kernel_rfl), (fun w => by kernel_rfl)⟩
theorem smC2 (w : World) : (convert 103 30 (.complex .f64 4620693217682128896 0)).run Tryz.prog w = .ok (.complex .f32 1090519040 0) w := by kernel_rfl
theorem madL3 : Mad (floatOfInt .f64 3) (floatOfInt .f64 0) (-1) ((floatOfInt .f64 10), (floatOfInt .f64 0)) (4619567317775286272, 0) := ⟨13837309855095848960, 0, (fun w => by kernel_rfl), (fun w => by kernel_rfl)⟩
theorem madH3 : Mad (floatOfInt .f64 1) (floatOfInt .f64 0) (-1) (4619567317775286272, 0) (4618441417868443648, 0) := ⟨13830554455654793216, 0, (fun w => by kernel_rfl), (fun w => by kernel_rfl)⟩
theorem smC3 (w : World) : (convert 103 30 (.complex .f64 4618441417868443648 0)).run Tryz.prog w = .ok (.complex .f32 1086324736 0) w := by kernel_rfl
theorem smOk : SampOk 10 0 3 0 1 0 smM smN smR := ⟨fun i hi => by
 have h : i = 0 ∨ i = 1 ∨ i = 2 ∨ i = 3 := by omega
 rcases h with rfl | rfl | rfl | rfl
 · exact ⟨_, _, rfl, rfl, madL0, madH0, smC0⟩
 · exact ⟨_, _, rfl, rfl, madL1, madH1, smC1⟩
 · exact ⟨_, _, rfl, rfl, madL2, madH2, smC2⟩
 · exact ⟨_, _, rfl, rfl, madL3, madH3, smC3⟩⟩
theorem xSampled (w : World) : Calls Tryz.prog 8 #[.agg #[.int .i64 10, .int .i64 0, .int .i64 3, .int .i64 0, .int .i64 1, .int .i64 0]] w fun e w' => e = .returned (.tuple #[.agg #[.complex .f32 1096810496 0, .complex .f32 1094713344 0, .complex .f32 1090519040 0, .complex .f32 1086324736 0], .int .i64 0]) ∧ Below w.heap.size w w' := by
 refine (sampled_by 10 0 3 0 1 0 smM smN smR w (by decide) smOk).mono ?_
 rintro e w' ⟨h1, h2⟩
 exact ⟨h1.trans (by kernel_rfl), h2⟩
theorem xFollowed (w : World) (A : Option Addr) (c : Nat) (hA : Rd w A (sgC [sgP 10 3 1, sgP 10 3 1, sgP 10 3 1])) : Calls Tryz.prog 34 #[.agg #[.int .i64 100, .int .i64 30, .int .i64 50, .int .i64 200, .int .i64 600], .int .i64 4, .int .i64 0, .slice A 3 c] w fun e w' => ∃ g, e = .returned (.tuple #[.slice (some ⟨g, 0, none⟩) 3 3, .int .i64 0]) ∧ Row w' g 3 (ints [5, 8, 11]) ∧ w.heap.size ≤ g ∧ Below w.heap.size w w' := by
 refine (followed_ok 100 30 50 200 600 4 0 0 A c [sgP 10 3 1, sgP 10 3 1, sgP 10 3 1] w hA (by decide) (by decide) (by decide) rfl recR (by decide) (by decide) (fun s hs => by simp only [List.mem_cons, List.not_mem_nil, or_false] at hs; rcases hs with rfl | rfl | rfl <;> exact sig_good (by decide)) (by decide)).mono ?_
 rintro e w' ⟨g, h1, h2, h3, h4⟩
 exact (by
  have e1 : foL 100 30 50 200 600 4 0 [sgP 10 3 1, sgP 10 3 1, sgP 10 3 1] = [5, 8, 11] := by kernel_rfl
  rw [e1] at h2
  exact ⟨g, h1, h2, h3, h4⟩)
theorem two_of {S : List (Int × Int)} (hp : S.Perm [(2, 3), (0, 2)]) (hs : S.Pairwise (fun a b : Int × Int => a.1 ≤ b.1)) : S = [(0, 2), (2, 3)] := by
 have hl := hp.length_eq
 match S, hl with
 | [p, q], _ =>
   have h0 : (0, 2) ∈ [p, q] := hp.mem_iff.2 (by simp)
   have h1 : ((2 : Int), (3 : Int)) ∈ [p, q] := hp.mem_iff.2 (by simp)
   have hle : p.1 ≤ q.1 := by
    have := List.pairwise_cons.1 hs
    exact this.1 q (by simp)
   simp only [List.mem_cons, List.not_mem_nil, or_false] at h0 h1
   rcases h0 with rfl | rfl
   · rcases h1 with h1 | rfl
     · exact absurd h1 (by decide)
     · rfl
   · rcases h1 with rfl | h1
     · exact absurd hle (by decide)
     · exact absurd h1 (by decide)
theorem xCross (w : World) (A : Option Addr) (c : Nat) (hA : Rd w A (sgC [sgP 10 3 1, sgP 10 1 3, sgP 10 1 1])) : Calls Tryz.prog 27 #[.slice A 3 c] w fun e w' => ∃ A2 c2, e = .returned (.tuple #[.slice A2 2 c2, .int .i64 0]) ∧ Rd w' A2 (spanC [(0, 2), (2, 3)]) ∧ Below w.heap.size w w' := by
 refine (crossings_ok 0 A c [sgP 10 3 1, sgP 10 1 3, sgP 10 1 1] w hA (by decide) (by decide) rfl (fun s hs => by simp only [List.mem_cons, List.not_mem_nil, or_false] at hs; rcases hs with rfl | rfl | rfl <;> exact sig_good (by decide)) (by decide)).mono ?_
 rintro e w' ⟨A2, c2, S, h1, h2, h3, h4, h5⟩
 exact (by
  have e1 : spL (fun k => (List.map sgn [sgP 10 3 1, sgP 10 1 3, sgP 10 1 1]).getD k 1 == 0) [sgP 10 3 1, sgP 10 1 3, sgP 10 1 1].length ++ crL (List.map sgn [sgP 10 3 1, sgP 10 1 3, sgP 10 1 1]) [sgP 10 3 1, sgP 10 1 3, sgP 10 1 1].length = [(2, 3), (0, 2)] := by kernel_rfl
  rw [e1] at h2
  obtain rfl := two_of h2 h3
  exact ⟨A2, c2, h1, h4, h5⟩)
theorem xFlag (w : World) (A : Option Addr) (c : Nat) (hA : Rd w A (sgC [sgP 10 3 1, sgP 7 3 1, sgP 10 6 1, sgP 10 3 1])) : Calls Tryz.prog 39 #[.agg #[.int .i64 100, .int .i64 30, .int .i64 50, .int .i64 200, .int .i64 600], .slice A 4 c] w fun e w' => ∃ A2 c2, e = .returned (.tuple #[.slice A2 1 c2, .int .i64 0]) ∧ Rd w' A2 (spanC [(1, 3)]) ∧ Below w.heap.size w w' := by
 refine (flagged_ok 100 30 50 200 600 0 A c [sgP 10 3 1, sgP 7 3 1, sgP 10 6 1, sgP 10 3 1] w hA (by decide) (by decide) rfl recR (fun s hs => by simp only [List.mem_cons, List.not_mem_nil, or_false] at hs; rcases hs with rfl | rfl | rfl | rfl <;> exact sig_good (by decide))).mono ?_
 rintro e w' ⟨A2, c2, h1, h2, h3⟩
 exact (by
  have e1 : spL (fgB 50 200 600 [sgP 10 3 1, sgP 7 3 1, sgP 10 6 1, sgP 10 3 1]) [sgP 10 3 1, sgP 7 3 1, sgP 10 6 1, sgP 10 3 1].length = [(1, 3)] := by kernel_rfl
  rw [e1] at h1 h2
  exact ⟨A2, c2, h1, h2, h3⟩)
theorem xPrint (w : World) (hT : It w) (A : Option Addr) (c : Nat) (hA : Rd w A (sgC [sgP 10 3 1])) : Calls Tryz.prog 13 #[.slice A 1 c] w fun e w' => e = .returned (.tuple #[.string ⟨#[115, 105, 103, 110, 97, 108, 32, 49, 48, 32, 48, 32, 51, 32, 48, 32, 49, 32, 48, 10]⟩, .int .i64 0]) ∧ Below w.heap.size w w' := by
 refine (printS_ok A c [sgP 10 3 1] w hT hA (by decide)).mono ?_
 rintro e w' ⟨h1, h2⟩
 exact ⟨h1.trans (by kernel_rfl), h2⟩
theorem xParse (w : World) (hM : Mx w) : Calls Tryz.prog 15 #[.string ⟨#[115, 105, 103, 110, 97, 108, 32, 49, 48, 32, 48, 32, 51, 32, 48, 32, 49, 32, 48, 10]⟩] w fun e w' => (∃ A c, e = .returned (.tuple #[.slice A 1 c, .int .i64 0, .int .i64 0]) ∧ Rd w' A (sgC [sgP 10 3 1])) ∧ Below w.heap.size w w' := by
 refine (parseS_ok ⟨#[115, 105, 103, 110, 97, 108, 32, 49, 48, 32, 48, 32, 51, 32, 48, 32, 49, 32, 48, 10]⟩ w hM (by decide) (by kernel_rfl)).mono ?_
 rintro e w' ⟨⟨A, c, h1, h2⟩, h3⟩
 exact (by
  have e1 : (rdS ⟨#[115, 105, 103, 110, 97, 108, 32, 49, 48, 32, 48, 32, 51, 32, 48, 32, 49, 32, 48, 10]⟩).2.2 = [sgP 10 3 1] := by kernel_rfl
  rw [e1] at h1 h2
  exact ⟨⟨A, c, h1, h2⟩, h3⟩)
def upL (n k : Nat) : Array Bool := (List.replicate k true ++ List.replicate (n - k) false).toArray
theorem upL_zero (n : Nat) : Array.replicate n false = upL n 0 := by
 apply Array.ext'
 simp [upL]
theorem upL_set {n k : Nat} (h : k < n) : (upL n k).setIfInBounds k true = upL n (k + 1) := by
 obtain ⟨m, rfl⟩ : ∃ m, n = k + (m + 1) := ⟨n - k - 1, by omega⟩
 have e1 : k + (m + 1) - k = m + 1 := by omega
 have e2 : k + (m + 1) - (k + 1) = m := by omega
 apply Array.ext'
 unfold upL
 rw [e1, e2]
 simp only [List.setIfInBounds_toArray, List.replicate_succ]
 rw [List.set_append_right _ _ (by simp)]
 simp only [List.length_replicate, Nat.sub_self, List.set_cons_zero]
 rw [show (true :: List.replicate k true : List Bool) = List.replicate k true ++ [true] from by rw [← List.replicate_succ, List.replicate_succ']]
 simp
theorem upL_get {n k i : Nat} (hk : k ≤ n) (d : Bool) : (upL n k).getD i d = if i < k then true else if i < n then false else d := by
 unfold upL
 rw [Array.getD_eq_getD_getElem?, List.getElem?_toArray]
 by_cases h : i < k
 · rw [List.getElem?_append_left (by simpa using h), List.getElem?_replicate, if_pos h, if_pos h]; rfl
 · rw [List.getElem?_append_right (by simp; omega), List.length_replicate, List.getElem?_replicate, if_neg h]
   by_cases h2 : i < n
   · rw [if_pos (by omega), if_pos h2]; rfl
   · rw [if_neg (by omega), if_neg h2]; rfl
def afOk (o : Oper) (m : Nat) : Bool := (o.after.all fun e => !Region.binds .any e || decide (e.on < m)) && (m == 0 || o.after.any fun e => Region.binds .any e && e.on + 1 == m)
structure OrdOk (ops : Array Oper) (n : Nat) (mx : List Nat) (takes : List Nat) : Prop where
 sz : ops.size = n ∧ mx.length = n
 sel : Region.noSelect ops = true
 af : ((ops.toList.zip mx).all fun p => afOk p.1 p.2) = true
 fr : (takes.all fun k => Region.free .any ops (upL n k) k) = true
 mz : ((List.range n).all fun k => decide (mx.getD k 0 ≤ k)) = true
 st : ((List.range n).all fun k => takes.contains k || (mx.drop (k + 1)).all fun m => decide (k < m)) = true
theorem OrdOk.wait {ops : Array Oper} {n : Nat} {mx takes : List Nat} (F : OrdOk ops n mx takes) {i : Nat} {o : Oper} (ho : ops[i]? = some o) : i < n ∧ afOk o (mx.getD i 0) = true := by
 obtain ⟨hi, he⟩ := Array.getElem?_eq_some_iff.1 ho
 rw [F.sz.1] at hi
 refine ⟨hi, ?_⟩
 have hm : i < mx.length := by rw [F.sz.2]; exact hi
 have h := List.all_eq_true.1 F.af (o, mx[i]) (by
  rw [List.mem_iff_getElem]
  refine ⟨i, by simp [F.sz.1, F.sz.2, hi], ?_⟩
  simp [List.getElem_zip, he])
 rw [List.getD_eq_getElem?_getD, List.getElem?_eq_getElem hm]
 exact h
theorem OrdOk.readies {ops : Array Oper} {n : Nat} {mx takes : List Nat} (F : OrdOk ops n mx takes) {k i : Nat} (hk : k ≤ n) (h : i ∈ Region.ready .any ops (upL n k)) : k ≤ i ∧ i < n ∧ mx.getD i 0 ≤ k := by
 obtain ⟨h1, o, ho, h2⟩ := mem_ready.1 h
 obtain ⟨hi, ha⟩ := F.wait ho
 rw [upL_get hk] at h1
 have hki : k ≤ i := by
  rcases Nat.lt_or_ge i k with h3 | h3
  · rw [if_pos h3] at h1; cases h1
  · exact h3
 refine ⟨hki, hi, ?_⟩
 unfold afOk at ha
 rw [Bool.and_eq_true, Bool.or_eq_true, beq_iff_eq] at ha
 rcases ha.2 with h0 | h0
 · omega
 · obtain ⟨e, he, hb⟩ := Array.any_eq_true'.1 h0
   rw [Bool.and_eq_true, beq_iff_eq] at hb
   have h3 := h2 e he hb.1
   rw [upL_get hk] at h3
   by_cases h4 : e.on < k
   · omega
   · rw [if_neg h4] at h3
     split at h3 <;> cases h3
theorem OrdOk.isReady {ops : Array Oper} {n : Nat} {mx takes : List Nat} (F : OrdOk ops n mx takes) {k : Nat} {o : Oper} (ho : ops[k]? = some o) : k ∈ Region.ready .any ops (upL n k) := by
 obtain ⟨hi, ha⟩ := F.wait ho
 have hm := List.all_eq_true.1 F.mz k (List.mem_range.2 hi)
 rw [decide_eq_true_eq] at hm
 refine mem_ready.2 ⟨by rw [upL_get (Nat.le_of_lt hi), if_neg (Nat.lt_irrefl k), if_pos hi], o, ho, fun e he hb => ?_⟩
 unfold afOk at ha
 rw [Bool.and_eq_true] at ha
 have h3 := Array.all_eq_true_iff_forall_mem.1 ha.1 e he
 rw [hb] at h3
 simp only [Bool.not_true, Bool.false_or, decide_eq_true_eq] at h3
 rw [upL_get (Nat.le_of_lt hi), if_pos (by omega)]
theorem OrdOk.alone {ops : Array Oper} {n : Nat} {mx takes : List Nat} (F : OrdOk ops n mx takes) {k : Nat} (hk : k < n) (ht : takes.contains k = false) {i : Nat} (h : i ∈ Region.ready .any ops (upL n k)) : i = k := by
 obtain ⟨h1, h2, h3⟩ := F.readies (Nat.le_of_lt hk) h
 have h4 := List.all_eq_true.1 F.st k (List.mem_range.2 hk)
 rw [ht, Bool.false_or, List.all_eq_true] at h4
 rcases Nat.lt_or_ge k i with h5 | h5
 · have hm : i < mx.length := by rw [F.sz.2]; exact h2
   have h6 := h4 mx[i] (by
    rw [List.mem_iff_getElem]
    exact ⟨i - (k + 1), by rw [List.length_drop]; omega, by rw [List.getElem_drop]; congr 1; omega⟩)
   rw [List.getD_eq_getElem?_getD, List.getElem?_eq_getElem hm] at h3
   simp only [Option.getD_some, decide_eq_true_eq] at h3 h6
   omega
 · omega
theorem ord_take {P : Program} {ops : Array Oper} {Q : Exit → Act → World → Prop} {S : World → Prop} {n fuel : Nat} {mx takes : List Nat} (F : OrdOk ops n mx takes) (k : Nat) (hs : takes.contains k = true) {oi : Oper} {v : Value} {a : Act} {w : World}
 (hi : ops[k]? = some oi) (hQ : ∀ c a w, Q (.panic c) (a.put oi.dst v) w → Q (.panic c) a w) (hy : YieldsIf P ops S oi v a) (hS : S w)
 (h : wpAnyH P .any ops Q S fuel (upL n (k + 1)) (a.put oi.dst v) w) : wpAnyH P .any ops Q S (fuel + 1) (upL n k) a w := by
 have hf := List.all_eq_true.1 F.fr k (by simpa using hs)
 rw [← upL_set (F.wait hi).1] at h
 exact wpAnyH_take hi F.sel hf (by simpa using F.isReady hi) hQ hy hS h
theorem ord_one {P : Program} {ops : Array Oper} {Q : Exit → Act → World → Prop} {S : World → Prop} {n fuel : Nat} {mx takes : List Nat} (F : OrdOk ops n mx takes) (k : Nat) (hs : takes.contains k = false) {oi : Oper} {v : Value} {a : Act} {w : World}
 (hi : ops[k]? = some oi) (hy : YieldsIf P ops S oi v a) (hS : S w)
 (h : wpAnyH P .any ops Q S fuel (upL n (k + 1)) (a.put oi.dst v) w) : wpAnyH P .any ops Q S (fuel + 1) (upL n k) a w := by
 refine ⟨fun h0 => ?_, fun j hj => ?_⟩
 · have := F.isReady hi
   rw [h0] at this
   cases this
 · obtain rfl := F.alone (F.wait hi).1 hs hj
   rw [upL_set (F.wait hi).1]
   exact hy.wpOp hi hS ⟨hS, h⟩
theorem put_lit (ts : List Value) (ds : List Deferred) (d : Nat) (v : Value) : Act.put ⟨ts.toArray, ds⟩ (some d) v = ⟨(ts.set d v).toArray, ds⟩ := by
 simp [Act.put]
theorem ord_oneL {P : Program} {ops : Array Oper} {Q : Exit → Act → World → Prop} {S : World → Prop} {n fuel : Nat} {mx takes : List Nat} (F : OrdOk ops n mx takes) (k : Nat) (hs : takes.contains k = false) {d : Nat} {op : Op} {ty : TypeId} {pos : String} {af : Array Edge} {gd : Option (Nat × Bool)} {v : Value} {ts : List Value} {ds : List Deferred} {w : World}
 (hi : ops[k]? = some ⟨some d, op, ty, pos, af, gd⟩) (hy : YieldsIf P ops S ⟨some d, op, ty, pos, af, gd⟩ v ⟨ts.toArray, ds⟩) (hS : S w)
 (h : wpAnyH P .any ops Q S fuel (upL n (k + 1)) ⟨(ts.set d v).toArray, ds⟩ w) : wpAnyH P .any ops Q S (fuel + 1) (upL n k) ⟨ts.toArray, ds⟩ w :=
 ord_one F k hs hi hy hS (by rw [put_lit]; exact h)
theorem ord_takeL {P : Program} {ops : Array Oper} {Q : Exit → Act → World → Prop} {S : World → Prop} {n fuel : Nat} {mx takes : List Nat} (F : OrdOk ops n mx takes) (k : Nat) (hs : takes.contains k = true) {d : Nat} {op : Op} {ty : TypeId} {pos : String} {af : Array Edge} {gd : Option (Nat × Bool)} {v : Value} {ts : List Value} {ds : List Deferred} {w : World}
 (hi : ops[k]? = some ⟨some d, op, ty, pos, af, gd⟩) (hQ : ∀ c a w, Q (.panic c) (a.put (some d) v) w → Q (.panic c) a w) (hy : YieldsIf P ops S ⟨some d, op, ty, pos, af, gd⟩ v ⟨ts.toArray, ds⟩) (hS : S w)
 (h : wpAnyH P .any ops Q S fuel (upL n (k + 1)) ⟨(ts.set d v).toArray, ds⟩ w) : wpAnyH P .any ops Q S (fuel + 1) (upL n k) ⟨ts.toArray, ds⟩ w :=
 ord_take F k hs hi hQ hy hS (by rw [put_lit]; exact h)
theorem ord_step {P : Program} {ops : Array Oper} {Q : Exit → Act → World → Prop} {S : World → Prop} {n fuel : Nat} {mx takes : List Nat} (F : OrdOk ops n mx takes) (k : Nat) (hs : takes.contains k = false) {o : Oper} {a : Act} {w : World}
 (hi : ops[k]? = some o)
 (h : ∀ K' : Act → World → Prop, Shut (∀ a w, S w → (S w → wpAnyH P .any ops Q S fuel (upL n (k + 1)) a w) → K' a w) → if Region.wanted o (yielded ops a.tmps) = true then Oper.wp P o a w K' Q else K' (a.put o.dst undef) w) :
 wpAnyH P .any ops Q S (fuel + 1) (upL n k) a w := by
 refine ⟨fun h0 => ?_, fun j hj => ?_⟩
 · have := F.isReady hi
   rw [h0] at this
   cases this
 · obtain rfl := F.alone (F.wait hi).1 hs hj
   rw [upL_set (F.wait hi).1]
   exact wpOp_step hi (fun K' hK => h K' (fun a w hS hW => hK a w ⟨hS, hW hS⟩))
theorem ord_done {P : Program} {ops : Array Oper} {Q : Exit → Act → World → Prop} {S : World → Prop} {n fuel : Nat} {mx takes : List Nat} (F : OrdOk ops n mx takes) {a : Act} {w : World} (h : Q .normal a w) : wpAnyH P .any ops Q S fuel (upL n n) a w :=
 wpAnyH_done (List.eq_nil_iff_forall_not_mem.2 fun i hi => by have := F.readies (Nat.le_refl n) hi; omega) h fuel
theorem ord_start {P : Program} {ops : Array Oper} {Q : Exit → Act → World → Prop} {S : World → Prop} {id : Nat} {a : Act} {w : World} (n : Nat) (mx takes : List Nat) (F : OrdOk ops n mx takes) (hm : P.follows .mixedOrders = true) (hS : S w.drew)
 (h : OrdOk ops n mx takes → S w.drew → wpAnyH P .any ops Q S n (upL n 0) a w.drew) : (Code.region id ops true).wp P Q a w := by
 refine wp_region_held_drew hm hS fun hw => ?_
 rw [F.sz.1, upL_zero]
 exact h F hw
def regOps (R : Nat) : Code → Option (Array Oper)
 | .region id ops _ => if id == R then some ops else none
 | .seq a b => match regOps R a with | some o => some o | none => regOps R b
 | .cond _ a b => match regOps R a with | some o => some o | none => regOps R b
 | .block _ c => regOps R c
 | .loop c => regOps R c
 | .scope c => regOps R c
 | .rangeFunc _ _ a b => match regOps R a with | some o => some o | none => regOps R b
 | _ => none
def ordB (ops : Array Oper) (n : Nat) (mx takes : List Nat) : Bool :=
 (ops.size == n && mx.length == n) && Region.noSelect ops && ((ops.toList.zip mx).all fun p => afOk p.1 p.2) && (takes.all fun k => Region.free .any ops (upL n k) k) && ((List.range n).all fun k => decide (mx.getD k 0 ≤ k)) && ((List.range n).all fun k => takes.contains k || (mx.drop (k + 1)).all fun m => decide (k < m))
def ordC (c : Option Code) (R n : Nat) (mx takes : List Nat) : Bool := match c.bind (regOps R) with
 | some o => ordB o n mx takes
 | none => false
theorem OrdOk.of {c : Option Code} {R n : Nat} {mx takes : List Nat} {ops : Array Oper} (hb : ordC c R n mx takes = true) (h : c.bind (regOps R) = some ops) : OrdOk ops n mx takes := by
 unfold ordC at hb
 rw [h] at hb
 simp only [ordB, Bool.and_eq_true, beq_iff_eq] at hb
 exact ⟨hb.1.1.1.1.1, hb.1.1.1.1.2, hb.1.1.1.2, hb.1.1.2, hb.1.2, hb.2⟩
theorem ord9_16 : ordC Tryz.f5.body 16 104 [0, 0, 2, 0, 4, 0, 6, 0, 8, 0, 10, 0, 12, 0, 14, 0, 16, 0, 18, 0, 20, 0, 22, 0, 24, 0, 26, 27, 28, 29, 29, 31, 32, 33, 34, 34, 36, 37, 38, 39, 39, 41, 42, 43, 44, 44, 46, 47, 48, 49, 49, 51, 52, 53, 54, 55, 56, 57, 57, 59, 60, 61, 62, 63, 64, 65, 66, 67, 68, 69, 70, 71, 72, 73, 74, 75, 76, 77, 78, 79, 80, 81, 82, 83, 84, 85, 86, 86, 88, 89, 90, 91, 92, 93, 94, 95, 96, 97, 98, 99, 100, 100, 102, 103] [0, 1, 2, 3, 4, 5, 6, 7, 8, 9, 10, 11, 12, 13, 14, 15, 16, 17, 18, 19, 20, 21, 22, 23, 24, 29, 34, 39, 44, 49, 57, 86, 100] = true := by kernel_rfl
theorem ord9_29 : ordC Tryz.f5.body 29 98 [0, 0, 2, 0, 4, 0, 6, 0, 8, 0, 10, 0, 12, 0, 14, 0, 16, 0, 18, 19, 20, 21, 22, 23, 24, 25, 25, 27, 28, 29, 30, 30, 32, 33, 34, 35, 35, 37, 38, 39, 40, 40, 42, 43, 44, 45, 45, 47, 48, 49, 50, 50, 52, 53, 54, 55, 55, 57, 58, 59, 60, 60, 62, 63, 64, 65, 66, 67, 67, 69, 70, 71, 72, 73, 74, 75, 76, 77, 78, 79, 80, 81, 82, 83, 84, 85, 86, 87, 88, 86, 90, 91, 92, 93, 93, 95, 96, 97] [0, 1, 2, 3, 4, 5, 6, 7, 8, 9, 10, 11, 12, 13, 14, 15, 16, 25, 30, 35, 40, 45, 50, 55, 60, 67, 86, 87, 88, 93] = true := by kernel_rfl
def AwT (w : World) : Prop := Tn w ∧ It w ∧ Mx w
theorem AwT.old {w w' : World} (h : AwT w) (hb : Below w.heap.size w w') : AwT w' := ⟨h.1.old hb, h.2.1.old hb, h.2.2.old hb⟩
def KpT (w0 : World) (rows : List (Nat × TypeId × List Value)) (rds : List (Option Addr × List Value)) (V : World) : Prop := AwT V ∧ (∀ r ∈ rows, Row V r.1 r.2.1 r.2.2) ∧ (∀ r ∈ rds, Rd V r.1 r.2) ∧ Below w0.heap.size w0 V
theorem KpT.old {w0 V V' : World} {rows : List (Nat × TypeId × List Value)} {rds : List (Option Addr × List Value)} (h : KpT w0 rows rds V) (hb : Below V.heap.size V V') : KpT w0 rows rds V' :=
 ⟨h.1.old hb, fun r hr => (h.2.1 r hr).old hb, fun r hr => (h.2.2.1 r hr).below hb, h.2.2.2.trans (hb.mono h.2.2.2.size)⟩
theorem KpT.row {w0 V : World} {rows : List (Nat × TypeId × List Value)} {rds : List (Option Addr × List Value)} (h : KpT w0 rows rds V) (g : Nat) (t : TypeId) (cs : List Value) (hm : (g, t, cs) ∈ rows) : Row V g t cs := h.2.1 (g, t, cs) hm
theorem KpT.rd {w0 V : World} {rows : List (Nat × TypeId × List Value)} {rds : List (Option Addr × List Value)} (h : KpT w0 rows rds V) (A : Option Addr) (cs : List Value) (hm : (A, cs) ∈ rds) : Rd V A cs := h.2.2.1 (A, cs) hm
theorem KpT.cons {w0 V : World} {rows : List (Nat × TypeId × List Value)} {rds : List (Option Addr × List Value)} (h : KpT w0 rows rds V) {g : Nat} {t : TypeId} {cs : List Value} (hr : Row V g t cs) : KpT w0 ((g, t, cs) :: rows) rds V :=
 ⟨h.1, fun r hm => by rcases List.mem_cons.1 hm with rfl | hm; exact hr; exact h.2.1 r hm, h.2.2.1, h.2.2.2⟩
theorem KpT.rcons {w0 V : World} {rows : List (Nat × TypeId × List Value)} {rds : List (Option Addr × List Value)} (h : KpT w0 rows rds V) {A : Option Addr} {cs : List Value} (hr : Rd V A cs) : KpT w0 rows ((A, cs) :: rds) V :=
 ⟨h.1, h.2.1, fun r hm => by rcases List.mem_cons.1 hm with rfl | hm; exact hr; exact h.2.2.1 r hm, h.2.2.2⟩
theorem KpT.drewN {w0 V : World} {rows : List (Nat × TypeId × List Value)} {rds : List (Option Addr × List Value)} (h : KpT w0 rows rds V) (q : Nat) : KpT w0 rows rds (V.drewN q) := h.old (below_drewN (Below.refl _ _) q)
def dn (n : Nat) (l : List Nat) : Array Bool := ((List.range n).map fun i => l.contains i).toArray
def stepPB (ops : Array Oper) (n : Nat) (takes done : List Nat) (i : Nat) : Bool :=
 if takes.contains i then (Region.ready .any ops (dn n done)).contains i && Region.free .any ops (dn n done) i else (Region.ready .any ops (dn n done) == [i])
def ordPB (ops : Array Oper) (n : Nat) (perm takes : List Nat) : Bool :=
 (ops.size == n && perm.length == n) && Region.noSelect ops && ((List.range n).all fun k => match perm[k]? with | some i => decide (i < n) && stepPB ops n takes (perm.take k) i | none => false) && (Region.ready .any ops (dn n perm) == [])
structure OrdP (ops : Array Oper) (n : Nat) (perm takes : List Nat) : Prop where
 sz : ops.size = n ∧ perm.length = n
 sel : Region.noSelect ops = true
 st : ∀ k i, perm[k]? = some i → i < n ∧ stepPB ops n takes (perm.take k) i = true
 dn : Region.ready .any ops (dn n perm) = []
def ordPC (c : Option Code) (R n : Nat) (perm takes : List Nat) : Bool := match c.bind (regOps R) with
 | some o => ordPB o n perm takes
 | none => false
theorem OrdP.of {c : Option Code} {R n : Nat} {perm takes : List Nat} {ops : Array Oper} (hb : ordPC c R n perm takes = true) (h : c.bind (regOps R) = some ops) : OrdP ops n perm takes := by
 unfold ordPC at hb
 rw [h] at hb
 simp only [ordPB, Bool.and_eq_true, beq_iff_eq] at hb
 refine ⟨hb.1.1.1, hb.1.1.2, fun k i hi => ?_, hb.2⟩
 have hk : k < n := by
  have := (List.getElem?_eq_some_iff.1 hi).1
  omega
 have h2 := List.all_eq_true.1 hb.1.2 k (List.mem_range.2 hk)
 rw [hi] at h2
 simpa using h2
theorem eqInG (a b c d : Int) (w : World) : (Op.equalIn 10000 23 (.agg #[.int .i64 a, .int .i64 b]) (.agg #[.int .i64 c, .int .i64 d])).run Tryz.prog w = .ok (a == c && b == d) w := by
 have i3 := Tryz.underlying3
 have e1 : ∀ (a b : Int), (part 3 #[.int .i64 a, .int .i64 b] 0).run Tryz.prog w = .ok (.int .i64 a) w := fun a b => part_int _ _ _ rfl w
 have e2 : ∀ (a b : Int), (part 3 #[.int .i64 a, .int .i64 b] 1).run Tryz.prog w = .ok (.int .i64 b) w := fun a b => part_int _ _ _ rfl w
 have e4 := fun (a b : Int) => run_equalIn_int (P := Tryz.prog) w 9998 3 .i64 .i64 a b i3
 have n1 : ("Re" : String) ≠ "_" := by decide
 have n2 : ("Im" : String) ≠ "_" := by decide
 rw [run_eqStruct w 9999 _ _ _ _ (by kernel_rfl) (by kernel_rfl) fieldsG]
 simp only [eqTriples, if_pos n1, if_pos n2, Sem.run_bind, e1, e2, e4, Result.andThen_ok, Sem.run_ite, Sem.run_pure]
 cases a == c <;> cases b == d <;> simp [e1, e2, e4]
theorem neqG (a b c d : Int) (w : World) : (binOp .neq 23 (.agg #[.int .i64 a, .int .i64 b]) (.agg #[.int .i64 c, .int .i64 d])).run Tryz.prog w = .ok (.bool (!(a == c && b == d))) w := by
 rw [run_neq_struct, eqInG]; rfl
theorem fieldsTS : ((Tryz.prog.fieldsOf 35).toList.map fun f => (f.name, f.type, f.offset)) = [("Carrier", 23, 0), ("Low", 23, 2), ("High", 23, 4)] := by kernel_rfl
theorem neqTS_self (a b c d x y : Int) (w : World) : (binOp .neq 35 (.agg #[.int .i64 a, .int .i64 b, .int .i64 c, .int .i64 d, .int .i64 x, .int .i64 y]) (.agg #[.int .i64 a, .int .i64 b, .int .i64 c, .int .i64 d, .int .i64 x, .int .i64 y])).run Tryz.prog w = .ok (.bool false) w := by
 have e1 : (part 23 #[.int .i64 a, .int .i64 b, .int .i64 c, .int .i64 d, .int .i64 x, .int .i64 y] 0).run Tryz.prog w = .ok (.agg #[.int .i64 a, .int .i64 b]) w := by kernel_rfl
 have e2 : (part 23 #[.int .i64 a, .int .i64 b, .int .i64 c, .int .i64 d, .int .i64 x, .int .i64 y] 2).run Tryz.prog w = .ok (.agg #[.int .i64 c, .int .i64 d]) w := by kernel_rfl
 have e3 : (part 23 #[.int .i64 a, .int .i64 b, .int .i64 c, .int .i64 d, .int .i64 x, .int .i64 y] 4).run Tryz.prog w = .ok (.agg #[.int .i64 x, .int .i64 y]) w := by kernel_rfl
 have e4 := fun (a b : Int) => eqG9 a b a b w
 have n1 : ("Carrier" : String) ≠ "_" := by decide
 have n2 : ("Low" : String) ≠ "_" := by decide
 have n3 : ("High" : String) ≠ "_" := by decide
 rw [run_neq_struct, run_eqStruct w 9999 _ _ _ _ (by kernel_rfl) (by kernel_rfl) fieldsTS]
 simp [eqTriples, Sem.run_bind, e1, e2, e3, e4, Result.andThen_ok, Sem.run_ite, Sem.run_pure]
theorem KpT.set {w0 V : World} {rows : List (Nat × TypeId × List Value)} {g : Nat} {cs : List Value} (hA : AwT w0) (h : KpT w0 rows [] V) (hg : w0.heap.size ≤ g) (hd : ∀ r ∈ rows, r.1 ≠ g) : KpT w0 rows [] (V.setRow g cs.toArray) := by
 have hb : Below w0.heap.size w0 (V.setRow g cs.toArray) := Below.setRow h.2.2.2 hg _
 exact ⟨hA.old hb, fun r hr => (h.2.1 r hr).farRow (hd r hr) _, fun r hr => (List.not_mem_nil hr).elim, hb⟩
theorem KpT.drop {w0 V : World} {r : Nat × TypeId × List Value} {rows : List (Nat × TypeId × List Value)} {rds : List (Option Addr × List Value)} (h : KpT w0 (r :: rows) rds V) : KpT w0 rows rds V := ⟨h.1, fun s hs => h.2.1 s (List.mem_cons_of_mem _ hs), h.2.2⟩
abbrev i2 (a b : Int) : List Value := [.int .i64 a, .int .i64 b]
abbrev i4 (a b c d : Int) : List Value := [.int .i64 a, .int .i64 b, .int .i64 c, .int .i64 d]
theorem kc {w0 V : World} {rows : List (Nat × TypeId × List Value)} {rds : List (Option Addr × List Value)} {t : TypeId} {zs cs : List Value} (h : KpT w0 rows rds V) : KpT w0 ((V.heap.size, t, cs) :: rows) rds ((V.alloc (.cells zs.toArray t)).setRow V.heap.size cs.toArray) :=
 KpT.cons (h.old (Below.setRow ((Below.refl _ _).alloc (Nat.le_refl _) _) (Nat.le_refl _) _)) ((Row.new V t zs).setRow cs)
end Go.Proofs.YtaknlhepgeiekaaGreatDoor
